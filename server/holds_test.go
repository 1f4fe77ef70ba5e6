package server_test

import (
	"math"
	"slices"
	"testing"

	"cairn/api"
	"cairn/ring"
	"cairn/server"
)

// Of none, of keys that are none of its own, and of another kind: zero values.
func TestP1308ZeroValues(t *testing.T) {
	c := seven()
	b, k, i := of(t, c, true)
	theirs, theirDir, theirAt := of(t, c, false)
	s := started(t, c, newDisk(t, 80))
	zeros := func(except ...api.Key) {
		t.Helper()
		keys := append(universe(c), b, k, i, theirs, theirDir, theirAt)
		for _, kind := range []int{math.MinInt, -1, 0, 1, 2, 3, 4, math.MaxInt} {
			for _, n := range []int{math.MinInt, -1, 0, 1, 2, 4, api.MaxNum, math.MaxInt} {
				keys = append(keys, api.Key{Kind: kind, A: n}, api.Key{Kind: kind, A: 4, B: n}, api.Key{Kind: kind, A: i.A, B: n}, api.Key{Kind: kind, A: i.A, B: 1, C: n}, api.Key{Kind: kind, A: 4, B: 2, C: n})
			}
		}
		for _, k := range keys {
			if slices.Contains(except, k) {
				continue
			}
			if x := s.Block(k); x.Stamp != (api.Stamp{}) || len(x.Data) != 0 {
				t.Fatalf("Block(%v): %+v", k, x)
			}
			if x := s.Instance(k); x != clear {
				t.Fatalf("Instance(%v): %+v", k, x)
			}
		}
	}
	zeros()
	mustDo(t, s, c, put(b, stamp(3, 4), "abc"), learned(i, command(1)))
	zeros(b, i)
	if x := s.Block(b); !same(x, api.Block{Stamp: stamp(3, 4), Data: []byte("abc")}) || s.Instance(b) != clear {
		t.Errorf("%+v", x)
	}
	if x := s.Instance(i); x != decided(1) || len(s.Block(i).Data) != 0 {
		t.Errorf("%+v", x)
	}
	// instance and bucket of one number, blocks and instances of like numbers, are not mistaken for each other
	for _, like := range []api.Key{{Kind: api.KBlock, A: i.A, B: 1}, {Kind: api.KBucket, A: i.A, B: 1}, {Kind: 0, A: i.A, B: 1}, {Kind: api.KInstance, A: b.A, B: b.B, C: b.C}} {
		if s.Instance(like) != clear || len(s.Block(like).Data) != 0 {
			t.Errorf("%v", like)
		}
	}
	if got, err := s.Trim(k.A, 1); got != 1 || err != api.OK {
		t.Fatal(got, err)
	}
	zeros(b)
	for _, n := range []int{math.MinInt, -1, theirDir.A, 16, 255, math.MaxInt} {
		if x := s.Bucket(n); x.Upto != 0 || len(x.Entries)+len(x.Lasts) != 0 {
			t.Errorf("Bucket(%d): %+v", n, x)
		}
	}
	if x := s.Bucket(k.A); !same(x, replayed(t, 1, 2)) {
		t.Errorf("%+v", x)
	}
}

// Keys are in the order of ring.Less, by the numbers, whatever came first.
func TestP1308Keys(t *testing.T) {
	c := three()
	s := started(t, c, newDisk(t, 200))
	far := api.Key{Kind: api.KBlock, A: 4, B: 11, C: 3}
	elder := api.Key{Kind: api.KBlock, A: 3, B: 200, C: 9}
	zeroth := api.Key{Kind: api.KInstance, A: 0, B: 10}
	mustDo(t, s, c, learned(at(10), command(10)), learned(at(9), command(9)), prepare(at(100), stamp(1, 1)), put(far, stamp(1, 1), "abc"), learned(zeroth, command(10)),
		put(block(11), stamp(1, 1), "abc"), put(block(2), stamp(1, 1), "abc"), put(elder, stamp(1, 1), "abc"), haveBucket(brought(8), false))
	want := []api.Key{elder, block(2), block(11), far, dir, zeroth, at(9), at(10), at(100)}
	got := slices.Collect(s.Keys())
	if !slices.Equal(got, want) {
		t.Errorf("%v, not %v", got, want)
	}
	for i := range len(got) - 1 {
		if !ring.Less(got[i], got[i+1]) {
			t.Errorf("%v stands ahead of %v", got[i], got[i+1])
		}
	}
}

// What is asked for, and got no record, is no key.
func TestP1308KeysOfNone(t *testing.T) {
	s, _ := fresh(t, 80)
	mustDo(t, s, three(), query(block(0)), ask(block(1), 0), ask(dir, 1), haveBlock(block(2), stamp(0, 0), ""), have(1, true, zero), haveBucket(brought(1), false))
	mustTrim(t, s, 9, 1)
	if got := slices.Collect(s.Keys()); !slices.Equal(got, []api.Key{dir}) {
		t.Errorf("%v", got)
	}
}

// A sequence goes over what was held when it was made: left, ranged over again, within itself, and while the server steps, trims and falls.
func TestP5Keys(t *testing.T) {
	s, d := row(t, "DDD")
	mustDo(t, s, three(), put(block(0), stamp(1, 1), "abc"))
	keys := s.Keys()
	want := []api.Key{block(0), at(1), at(2), at(3)}
	for range keys {
		break
	}
	for stop := range 5 {
		var got []api.Key
		for k := range keys {
			if len(got) == stop {
				break
			}
			got = append(got, k)
		}
		if !slices.Equal(got, want[:stop]) {
			t.Fatalf("left behind %d: %v", stop, got)
		}
	}
	var pairs int
	for a := range keys {
		for b := range keys {
			if ring.Less(a, b) {
				pairs++
			}
		}
	}
	if pairs != 6 {
		t.Errorf("%d pairs", pairs)
	}
	var got []api.Key
	for k := range keys {
		switch len(got) {
		case 0:
			mustTrim(t, s, 2, 2)
		case 1:
			mustDo(t, s, three(), put(block(1), stamp(1, 1), "abc"))
		case 2:
			s.Arm(0)
			mustNothing(t, s, query(block(0)))
		}
		got = append(got, k)
	}
	if !slices.Equal(got, want) || !slices.Equal(slices.Collect(keys), want) {
		t.Errorf("%v", got)
	}
	if n := len(slices.Collect(s.Keys())); n != 0 {
		t.Errorf("%d keys of a server that has fallen", n)
	}
	s = started(t, three(), d)
	if got, want := slices.Collect(s.Keys()), []api.Key{block(0), block(1), dir, at(3)}; !slices.Equal(got, want) {
		t.Errorf("%v", got)
	}
	empty := started(t, three(), newDisk(t, 40))
	none := empty.Keys()
	mustDo(t, empty, three(), put(block(1), stamp(1, 1), "abc"))
	if n := len(slices.Collect(none)); n != 0 {
		t.Errorf("%d keys of a server that held none", n)
	}
}

// A Server that New did not make holds nothing, and answers as one that has fallen.
func TestP1ZeroServer(t *testing.T) {
	mustBeDown(t, &server.Server{}, newDisk(t, 1))
}
