package audit_test

import (
	"bytes"
	"runtime"
	"slices"
	"sync"
	"testing"
	"time"

	"cairn/api"
	"cairn/audit"
)

// roomy has these, with others in its spare room.
func roomy[T any](list []T, spare T) []T {
	return append(slices.Clone(list), spare, spare, spare)[:len(list)]
}

// spoil fills a list, its spare room too.
func spoil[T any](list []T, with T) {
	list = list[:cap(list)]
	for i := range list {
		list[i] = with
	}
}

// handed are images as they are handed in, with the spare room of all lists filled.
func handed(l []api.Image) []api.Image {
	l = roomy(l, api.Image{Server: 99})
	for i := range l {
		l[i].Data = roomy(l[i].Data, 'r')
	}
	return l
}

// copied are images that share no memory with others, the spare room of their lists too.
func copied(l []api.Image) []api.Image {
	l = slices.Clone(l[:cap(l)])
	for i := range l {
		l[i].Data = bytes.Clone(l[i].Data[:cap(l[i].Data)])
	}
	return l
}

func sameImages(a, b []api.Image) bool {
	return slices.EqualFunc(a, b, func(a, b api.Image) bool { return a.Server == b.Server && bytes.Equal(a.Data, b.Data) })
}

// again asks of the same images once more.
func (s seen) again(c api.Config, l []api.Image, workers int) string {
	t := look(c, s.l, l, workers)
	if t.err != s.err || !slices.Equal(t.faults, s.faults) || !slices.EqualFunc(t.blocks, s.blocks, sameBlock) || !slices.EqualFunc(t.buckets, s.buckets, sameBucket) {
		return "the same disks are not answered the same:\n" + words(s.l)
	}
	return ""
}

// What is handed in, its spare room too, is not changed.
func TestP2HandedIn(t *testing.T) {
	t.Parallel()
	for _, s := range manyDrawn()[:800] {
		c := s.c
		c.Servers = roomy(c.Servers, 99)
		servers := slices.Clone(c.Servers[:cap(c.Servers)])
		l := handed(imagesOf(c, s.l))
		was := copied(l)
		for _, workers := range []int{0, 1, api.MaxWorkers} {
			audit.Run(c, l, workers)
		}
		for _, k := range []api.Key{blockAt(0), dir(0), at(0, 1)} {
			audit.Newest(c, l, k)
		}
		audit.Run(c, l[:cap(l)], 2) // one image too many
		if !sameImages(copied(l), was) || !slices.Equal(c.Servers[:cap(c.Servers)], servers) {
			t.Fatalf("what was handed in is changed:\n%s", words(s.l))
		}
	}
}

// Nothing of it is kept, and what is told is new memory: filled, it changes nothing.
func TestP2ToldAndNotKept(t *testing.T) {
	t.Parallel()
	for _, s := range manyDrawn()[800:1600] {
		c := s.c
		c.Servers = slices.Clone(c.Servers)
		l := handed(imagesOf(c, s.l))
		told := look(c, s.l, l, 3)
		for i := range l {
			spoil(l[i].Data, '#')
		}
		spoil(l, api.Image{Server: 99})
		spoil(c.Servers, 99)
		if !slices.Equal(told.faults, s.faults) || !slices.EqualFunc(told.blocks, s.blocks, sameBlock) || !slices.EqualFunc(told.buckets, s.buckets, sameBucket) {
			t.Fatalf("what was told is changed:\n%s", words(s.l))
		}
		for i := range told.buckets { // no two lists of it share any
			spoil(told.buckets[i].Entries, api.Entry{Name: "#"})
			if !slices.Equal(told.buckets[i].Lasts, s.buckets[i].Lasts) {
				t.Fatal("the Lasts are changed with the Entries")
			}
			spoil(told.buckets[i].Lasts, api.Last{Client: 99})
		}
		for i := range told.blocks {
			spoil(told.blocks[i].Data, '#')
		}
		spoil(told.faults, fault(99, api.Key{}))
		if fault := s.again(s.c, imagesOf(s.c, s.l), 5); fault != "" {
			t.Fatal(fault)
		}
	}
}

// Two answers share nothing, though they are of the same images.
func TestP2TwoAnswers(t *testing.T) {
	c := three()
	l := images(c, dir(1), records{dir(1): made(c, x()), blockAt(0): written(1, 1, 1, 2, 3), at(1, 3): []byte{1}}, known(1, 2, create(8, 8, "oar")))
	want := made(c, x(), create(8, 8, "oar"))
	for _, k := range []api.Key{blockAt(0), dir(1)} {
		b, d, _ := audit.Newest(c, l, k)
		spoil(b.Data, '#')
		spoil(d.Entries, api.Entry{})
		spoil(d.Lasts, api.Last{})
		faults, _ := audit.Run(c, l, 2)
		spoil(faults, fault(9, k))
	}
	mustBeNewestBlock(t, c, l, blockAt(0), written(1, 1, 1, 2, 3))
	mustBeNewestBucket(t, c, l, 1, want)
	mustFind(t, c, l, fault(api.FRecord, at(1, 3)))
}

// No list and an empty one are the same, of images and of their bytes.
func TestP2NoList(t *testing.T) {
	mustFind(t, three(), []api.Image{})
	mustBeNewestBucket(t, three(), []api.Image{}, 1, api.Bucket{})
	mustRefuseImages(t, api.ErrSectors, api.Image{Server: 1})
	mustRefuseImages(t, api.ErrSectors, api.Image{Server: 1, Data: []byte{}})
}

// The same calls answer the same, whoever asks at the same time, with whatever workers, and in whatever order the servers stand.
func TestP3Same(t *testing.T) {
	t.Parallel()
	var work sync.WaitGroup
	faults := make([]string, 4)
	for w := range faults {
		work.Go(func() {
			for i, s := range manyDrawn()[:600] {
				c := s.c
				c.Servers = slices.Clone(c.Servers)
				slices.Reverse(c.Servers)
				if fault := s.again(c, imagesOf(c, s.l), 1+(i+5*w)%api.MaxWorkers); fault != "" {
					faults[w] = fault
				}
			}
		})
	}
	work.Wait()
	for _, fault := range faults {
		if fault != "" {
			t.Error(fault)
		}
	}
}

// All goroutines have ended when Run answers. (It is alone here: the tests that run beside others begin when it is done.)
func TestP1905GoroutinesEnd(t *testing.T) {
	c := three()
	l, _ := many(c)
	before := runtime.NumGoroutine()
	for range 50 {
		for _, workers := range []int{1, 7, api.MaxWorkers} {
			audit.Run(c, l, workers)
			audit.Run(c, nil, workers)
		}
	}
	now := runtime.NumGoroutine()
	for range 100 { // one that has told that it is done may still be on its way out
		if now <= before {
			return
		}
		time.Sleep(time.Millisecond)
		now = runtime.NumGoroutine()
	}
	t.Errorf("there are %d goroutines, and were %d", now, before)
}
