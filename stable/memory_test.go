package stable_test

import (
	"bytes"
	"testing"

	"cairn/api"
	"cairn/disk"
	"cairn/stable"
)

// spoil fills bytes, their spare room too.
func spoil(b []byte) {
	b = b[:cap(b)]
	for i := range b {
		b[i] = 0xee
	}
}

// roomy has the same bytes, with spare room behind them.
func roomy(s string) []byte {
	return append(append([]byte{}, s...), text(600, 9)...)[:len(s)]
}

func TestP2PutKeepsAndChangesNothing(t *testing.T) {
	for _, n := range []int{0, 1, 448, 449, 1344} {
		for _, torn := range []int{-1, 0, 100, 512} {
			d := made(t, 12)
			s := opened(t, d, wide)
			if torn >= 0 {
				d.Arm(0, torn)
			}
			b := roomy(text(n, 1))
			before := bytes.Clone(b[:cap(b)])
			err := s.Put(instance(0, 1), b)
			if !bytes.Equal(b[:cap(b)], before) {
				t.Fatalf("Put has changed the bytes that it was handed, or their spare room")
			}
			spoil(b)
			if err == api.OK {
				mustHave(t, s, wide, records{instance(0, 1): text(n, 1)})
				mustHave(t, opened(t, d, wide), wide, records{instance(0, 1): text(n, 1)})
			}
		}
	}
}

func TestP2RefusedPutChangesNothing(t *testing.T) {
	s := opened(t, made(t, 2), wide)
	for _, k := range []api.Key{{}, block(0), bucket(0)} {
		b := roomy(text(449, 1))
		before := bytes.Clone(b[:cap(b)])
		s.Put(k, b)
		if !bytes.Equal(b[:cap(b)], before) {
			t.Errorf("a Put that is refused has changed the bytes that it was handed")
		}
	}
}

func TestP2FitsChangesNothing(t *testing.T) {
	s := opened(t, made(t, 2), wide)
	kinds := []int{1, 2, 3, 7, 1, 1}
	s.Fits(kinds[:4]...)
	s.Fits(kinds[:3]...)
	for i, want := range []int{1, 2, 3, 7, 1, 1} {
		if kinds[i] != want {
			t.Errorf("Fits has changed what it was handed: %v", kinds)
		}
	}
}

// Records that were put, and such that were found by Open.
func TestP2AnswersAreNewMemory(t *testing.T) {
	d := made(t, 20)
	s := opened(t, d, wide)
	want := records{block(0): "short", instance(0, 1): text(1000, 1), instance(0, 2): text(1344, 2), bucket(0): "", block(1): text(448, 3)}
	for k, record := range want {
		mustPut(t, s, k, record, api.OK)
	}
	for _, s := range []*stable.Store{s, opened(t, d, wide)} {
		for k, record := range want {
			first, _ := s.Get(k)
			second, _ := s.Get(k)
			spoil(first)
			if string(second) != record {
				t.Fatalf("two Gets of %v share memory", k)
			}
			mustHave(t, s, wide, want)
		}
		all := s.All()
		var lists [][]byte
		for range 2 {
			for k, b := range all {
				if string(b) != want[k] {
					t.Fatalf("All shares memory with what it told under %v", k)
				}
				for i := range lists {
					spoil(lists[i])
				}
				if string(b) != want[k] {
					t.Fatalf("two records of All share memory: %v", k)
				}
				lists = append(lists, b)
				spoil(b)
			}
		}
		mustHave(t, s, wide, want)
		mustHave(t, opened(t, d, wide), wide, want)
	}
}

// What was answered stays as it was, whatever is put and dropped later.
func TestP2AnswersStay(t *testing.T) {
	d := made(t, 12)
	s := opened(t, d, wide)
	mustPut(t, s, bucket(0), text(896, 1), api.OK)
	got, _ := s.Get(bucket(0))
	var told []byte
	for _, b := range s.All() {
		told = b
	}
	mustPut(t, s, bucket(0), text(896, 2), api.OK)
	mustPut(t, s, bucket(0), text(896, 3), api.OK)
	mustDrop(t, s, bucket(0), api.OK)
	mustPut(t, s, bucket(1), text(896, 4), api.OK)
	d.Arm(1, 5)
	mustPut(t, s, bucket(0), text(896, 4), api.ErrFallen)
	if string(got) != text(896, 1) || string(told) != text(896, 1) {
		t.Error("what was answered has changed")
	}
}

// Two runs of one row of calls, falls among them, answer the same and leave the same bytes.
func TestP3TheSameAgain(t *testing.T) {
	for seed := range 30 {
		a, b := run(t, chance(seed)), run(t, chance(seed))
		if !bytes.Equal(a, b) {
			t.Fatalf("row %d: two runs leave unlike disks, or were answered unlike things", seed)
		}
	}
}

func run(t *testing.T, c chance) []byte {
	t.Helper()
	d := made(t, 18)
	s := opened(t, d, wide)
	var log []byte
	for range 80 {
		if c.below(5) == 0 {
			d.Arm(c.below(4), c.below(513))
		}
		err := c.someStep(wide).on(s)
		log = append(log, byte(err), byte(s.Len()), byte(s.Taken()))
		for k, record := range s.All() {
			log = append(append(log, byte(k.Kind), byte(k.A), byte(k.B), byte(k.C)), record...)
		}
		if err == api.ErrFallen {
			d.Start()
			s = opened(t, d, wide)
		}
	}
	return append(log, d.Image()...)
}

func TestP4NothingBesideAnError(t *testing.T) {
	s := opened(t, made(t, 4), wide)
	mustPut(t, s, block(0), "a", api.OK)
	for _, k := range append([]api.Key{block(1), bucket(0)}, wrong...) {
		if b, ok := s.Get(k); b != nil || ok {
			t.Errorf("Get(%v): %v, %v", k, b, ok)
		}
	}
}

// Two Stores over two disks are gone over turn by turn: each is as its own row alone makes it.
func TestP7StoresSeeNothingOfOneAnother(t *testing.T) {
	c := chance(5)
	for range 30 {
		disks := [2]*disk.Disk{made(t, 14), made(t, 14)}
		stores := [2]*stable.Store{opened(t, disks[0], wide), opened(t, disks[1], wide)}
		has := [2]records{{}, {}}
		for range 60 {
			i := c.below(2)
			p := c.someStep(wide)
			want := p.wanted(has[i], wide, 14)
			if err := p.on(stores[i]); err != want {
				t.Fatalf("%v: %v, want %v", p, err, want)
			}
			if want == api.OK {
				has[i] = p.behind(has[i])
			}
			mustHave(t, stores[0], wide, has[0])
			mustHave(t, stores[1], wide, has[1])
		}
	}
}

func TestP7EachStoreIsItsOwn(t *testing.T) {
	down, stays := made(t, 4), made(t, 4)
	one, other := opened(t, down, wide), opened(t, stays, wide)
	mustPut(t, one, block(0), "a", api.OK)
	mustPut(t, other, block(0), "b", api.OK)
	one.Limit(0)
	mustPut(t, other, block(1), "c", api.OK)
	mustPut(t, one, block(1), "c", api.ErrFull)
	down.Arm(0, 0)
	mustDrop(t, one, block(0), api.ErrFallen)
	mustBeFallen(t, one)
	mustHave(t, other, wide, records{block(0): "b", block(1): "c"})
}

// A Store that Open did not make has no disk: it has fallen.
func TestP1EmptyStore(t *testing.T) {
	var s stable.Store
	mustBeFallen(t, &s)
}
