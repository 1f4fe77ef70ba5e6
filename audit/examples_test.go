package audit_test

import (
	"testing"

	"cairn/api"
	"cairn/audit"
)

// The examples of chapter 19, by their numbers.

func TestP1901Example1(t *testing.T) {
	mustFind(t, three(), nil)
	two := image(three(), 2, nil)
	for _, e := range []struct {
		l       []api.Image
		workers int
		want    api.Errno
	}{
		{[]api.Image{image(three(), 4, nil)}, 1, api.ErrAddr}, {[]api.Image{two, two}, 1, api.ErrAddr},
		{[]api.Image{{Server: 2, Data: make([]byte, 100)}}, 1, api.ErrSectors},
		{nil, 0, api.ErrArg}, {nil, 17, api.ErrArg},
	} {
		if l, err := audit.Run(three(), e.l, e.workers); err != e.want || len(l) != 0 {
			t.Errorf("Run: %v, %v, not %v", l, err, e.want)
		}
	}
}

func TestP1902Example2(t *testing.T) {
	i := at(1, 1)
	on := func(third api.Instance) []api.Image {
		return []api.Image{image(three(), 1, records{i: accepted(3, 7, x())}), image(three(), 2, records{i: accepted(3, 7, x())}), image(three(), 3, records{i: third})}
	}
	mustFind(t, three(), on(accepted(2, 9, y())))
	mustFind(t, three(), on(accepted(4, 1, y())), fault(api.FLater, i))
	mustFind(t, three(), on(decided(y())), fault(api.FSplit, i))
}

func TestP1902Example3(t *testing.T) {
	on := func(n int) []api.Image {
		return []api.Image{image(three(), 1, records{blockAt(0): written(7, 4, 1, 2, 3)}), image(three(), 2, records{blockAt(0): written(n, 4, 1, 2, 4)})}
	}
	mustFind(t, three(), on(7), fault(api.FTag, blockAt(0)))
	mustFind(t, three(), on(6))
	mustBeNewestBlock(t, three(), on(6), blockAt(0), written(7, 4, 1, 2, 3))
}

func TestP1903Example4(t *testing.T) {
	l := []api.Image{
		image(three(), 1, records{dir(1): api.Bucket{Upto: 1}}),
		image(three(), 2, records{at(1, 1): decided(x())}), image(three(), 3, records{at(1, 1): decided(x())}),
	}
	mustFind(t, three(), l, fault(api.FBucket, dir(1)))
	mustFind(t, three(), l[:1])
}

func TestP1902Example5(t *testing.T) {
	mustFind(t, three(), []api.Image{image(three(), 1, records{at(1, 1): []byte{1, 2}})}, fault(api.FRecord, at(1, 1)))
}
