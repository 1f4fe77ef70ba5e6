package audit_test

import (
	"fmt"
	"maps"
	"slices"
	"sync"
	"testing"

	"cairn/api"
	"cairn/audit"
)

// seen is what lies on disks, and what is told of it.
type seen struct {
	c       api.Config
	l       []tray
	slips   []slip
	faults  []api.Fault
	err     api.Errno
	blocks  []api.Block // of the keys that are asked for
	buckets []api.Bucket
}

// asked are the keys of which Newest is asked.
func asked(c api.Config) ([]api.Key, []api.Key) {
	blocks := []api.Key{blockAt(0), blockAt(1), blockAt(2)}
	var buckets []api.Key
	for number := range min(3, c.Buckets) {
		buckets = append(buckets, dir(number))
	}
	return blocks, buckets
}

func look(c api.Config, l []tray, all []api.Image, workers int) seen {
	s := seen{c: c, l: l, slips: slipsOf(c, l)}
	s.faults, s.err = audit.Run(c, all, workers)
	blocks, buckets := asked(c)
	for _, k := range blocks {
		b, _, err := audit.Newest(c, all, k)
		s.blocks, s.err = append(s.blocks, b), max(s.err, err)
	}
	for _, k := range buckets {
		_, b, err := audit.Newest(c, all, k)
		s.buckets, s.err = append(s.buckets, b), max(s.err, err)
	}
	return s
}

// unlike holds what was told against a plain audit, which may break a rule, and tells where they part.
func (s seen) unlike(wrong string, heard map[string]struct{}) string {
	p := plain{c: s.c, slips: s.slips, wrong: wrong, heard: heard}
	if s.err != api.OK {
		return s.err.Error()
	}
	if want := p.Run(); !slices.Equal(s.faults, want) {
		return fmt.Sprintf("Run: %v, not %v", s.faults, want)
	}
	blocks, buckets := asked(s.c)
	for i, k := range blocks {
		if want := p.NewestBlock(k); !sameBlock(s.blocks[i], want) {
			return fmt.Sprintf("Newest(%v): %v, not %v", k, s.blocks[i], want)
		}
	}
	for i, k := range buckets {
		if want := p.NewestBucket(k.A); !sameBucket(s.buckets[i], want) {
			return fmt.Sprintf("Newest(%v): %v, not %v", k, s.buckets[i], want)
		}
	}
	return ""
}

func (s seen) mustBePlain(t testing.TB) {
	t.Helper()
	if fault := s.unlike("", nil); fault != "" {
		t.Fatalf("%s, of\n%s", fault, words(s.l))
	}
}

// drawn are disks by their seed.
func drawn(seed int64) seen {
	c := configs()[seed%int64(len(configs()))]
	l := newHand(c, seed).trays()
	return look(c, l, imagesOf(c, l), 1+int(seed)%api.MaxWorkers)
}

// manyDrawn are made once.
var manyDrawn = sync.OnceValue(func() []seen {
	all := make([]seen, 8000)
	var work sync.WaitGroup
	for from := range 9 {
		work.Go(func() {
			for i := from; i < len(all); i += 9 {
				all[i] = drawn(int64(i))
			}
		})
	}
	work.Wait()
	return all
})

func TestP1902DrawnDisks(t *testing.T) {
	t.Parallel()
	ends := map[string]int{}
	for part := range 8 {
		t.Run(fmt.Sprint(part), func(t *testing.T) {
			t.Parallel()
			for i, s := range manyDrawn() {
				if i%8 == part {
					s.mustBePlain(t)
				}
			}
		})
	}
	for _, s := range manyDrawn() {
		s.count(ends)
	}
	for _, what := range []string{"no fault", "one fault", "several faults", "several of one key", "kind 1", "kind 2", "kind 3", "kind 4", "kind 5",
		"a newest block", "no newest block", "a newest bucket", "no newest bucket"} {
		if ends[what] < 100 {
			t.Errorf("too few of %q to tell: %v", what, ends)
		}
	}
}

// count notes what disks have to show.
func (s seen) count(ends map[string]int) {
	switch len(s.faults) {
	case 0:
		ends["no fault"]++
	case 1:
		ends["one fault"]++
	default:
		ends["several faults"]++
	}
	for i, f := range s.faults {
		ends[fmt.Sprint("kind ", f.Kind)]++
		if i > 0 && s.faults[i-1].Key == f.Key {
			ends["several of one key"]++
		}
	}
	for _, b := range s.blocks {
		if len(b.Data) > 0 {
			ends["a newest block"]++
		} else {
			ends["no newest block"]++
		}
	}
	for _, b := range s.buckets {
		if b.Upto > 0 {
			ends["a newest bucket"]++
		} else {
			ends["no newest bucket"]++
		}
	}
}

// Rules that are broken on purpose: the drawn disks find each of them out.
func TestP1902WrongRulesAreFoundOut(t *testing.T) {
	t.Parallel()
	heard := map[string]struct{}{}
	for _, s := range manyDrawn()[:1000] {
		s.unlike("", heard)
	}
	rules := slices.Sorted(maps.Keys(heard))
	if len(rules) < 70 {
		t.Errorf("there are only %d rules: %q", len(rules), rules)
	}
	for _, wrong := range rules {
		t.Run(wrong, func(t *testing.T) {
			t.Parallel()
			if !slices.ContainsFunc(manyDrawn(), func(s seen) bool { return s.unlike(wrong, nil) != "" }) {
				t.Error("it is not found out")
			}
		})
	}
}
