package audit

import (
	"cmp"
	"slices"
	"sync"

	"cairn/api"
	"cairn/ring"
)

// search has workers look at all that lies there. Which of them finds what, and when, is not to be seen: all of it is sorted.
func (d disks) search(workers int) []api.Fault {
	keys := make(chan api.Key)
	found := make(chan []api.Fault, workers) // room for what each tells at its end
	var crew sync.WaitGroup
	for range workers {
		crew.Add(1)
		go func() {
			defer crew.Done()
			found <- d.work(keys)
		}()
	}
	for k := range d.records {
		keys <- k
	}
	close(keys)
	crew.Wait()
	close(found)
	var all []api.Fault
	for list := range found {
		all = append(all, list...)
	}
	slices.SortFunc(all, compare)
	return slices.Compact(all)
}

// work is a worker's: it ends when no more keys are to come.
func (d disks) work(keys <-chan api.Key) []api.Fault {
	var list []api.Fault
	for k := range keys {
		list = append(list, d.faults(k)...)
	}
	return list
}

// compare is by key, then by kind.
func compare(a, b api.Fault) int {
	switch {
	case ring.Less(a.Key, b.Key):
		return -1
	case ring.Less(b.Key, a.Key):
		return 1
	}
	return cmp.Compare(a.Kind, b.Kind)
}
