package history

import (
	"cmp"
	"slices"

	"cairn/api"
)

// row is the order of a block or of a bucket.
type row struct {
	operations []*operation
	come       int // how many of them have come
}

// lineUp makes the rows of the operations that took place, and tells whether all of them stand.
func (t *tale) lineUp() bool {
	rows := map[api.Key]*row{}
	for _, o := range t.invoked {
		if !o.happened {
			continue
		}
		if rows[o.home] == nil {
			rows[o.home] = &row{}
		}
		o.row = rows[o.home]
		o.row.operations = append(o.row.operations, o)
	}
	for home, r := range rows {
		slices.SortFunc(r.operations, compare)
		for rank, o := range r.operations {
			o.rank = rank
		}
		if home.Kind == api.KBlock && !r.standsAtBlock() || home.Kind == api.KBucket && !r.standsAtBucket() {
			return false
		}
	}
	return true
}

// compare holds two operations of one home against each other: of a block by the stamp, of a bucket by the instance.
func compare(a, b *operation) int {
	return cmp.Or(compareStamps(a.stamp, b.stamp), cmp.Compare(a.instance, b.instance), compareKinds(a, b), cmp.Compare(a.place, b.place))
}

// compareKinds has an OWrite ahead of what reads it.
func compareKinds(a, b *operation) int {
	switch {
	case a.is(api.OWrite) && !b.is(api.OWrite):
		return -1
	case b.is(api.OWrite) && !a.is(api.OWrite):
		return 1
	}
	return 0
}

func (r *row) standsAtBlock() bool {
	zeros := api.Stamp{}
	written := zeros // by the last OWrite
	for _, o := range r.operations {
		switch {
		case o.complete() && o.result.Err != api.OK:
			return false
		case o.is(api.OWrite) && (o.stamp == zeros || o.stamp == written):
			return false
		case o.is(api.OWrite):
			written = o.stamp
		case o.stamp != zeros && o.stamp != written:
			return false
		}
	}
	return true
}

func (r *row) standsAtBucket() bool {
	last := 0
	for _, o := range r.operations {
		if !within(o.instance, last+1, api.MaxInstance) {
			return false
		}
		last = o.instance
	}
	return true
}

// arrange makes the order: again and again the operation with the least place comes that has none ahead of it. None and false: each has one.
func (t *tale) arrange() ([]int, bool) {
	left := slices.DeleteFunc(slices.Clone(t.invoked), func(o *operation) bool { return !o.happened })
	awaited := queue(slices.DeleteFunc(slices.Clone(t.returned), func(o *operation) bool { return !o.happened }))
	var order []int
	// Those that none of the awaited returned ahead of: each client has one at most.
	var near []*operation
search:
	for len(left)+len(near) > 0 {
		for end := awaited.first(); len(left) > 0 && left[0].place < end; left = left[1:] {
			near = append(near, left[0])
		}
		for i, o := range near {
			if o.rank > o.row.come {
				continue
			}
			o.come = true
			o.row.come++
			order = append(order, o.place)
			near = slices.Delete(near, i, i+1)
			continue search
		}
		return nil, false
	}
	return order, true
}

// queue is of operations by the places of their returns: those that are awaited.
type queue []*operation

// first is the place of the first return of those that have not come.
func (q *queue) first() int {
	for len(*q) > 0 && (*q)[0].come {
		*q = (*q)[1:]
	}
	if len(*q) == 0 {
		return none
	}
	return (*q)[0].end
}

// awaited tells those that returned and have to come in an order: the complete ones, and of the others those that stand in it.
func (t *tale) awaited(order []int) queue {
	for _, place := range order {
		if o := t.at(place); o != nil {
			o.named = true
		}
	}
	return slices.DeleteFunc(slices.Clone(t.returned), func(o *operation) bool { return !o.complete() && !o.named })
}

// at is the operation of that place; nil: there is none.
func (t *tale) at(place int) *operation {
	i, there := slices.BinarySearchFunc(t.invoked, place, func(o *operation, place int) int { return cmp.Compare(o.place, place) })
	if !there {
		return nil
	}
	return t.invoked[i]
}
