package server_test

import (
	"math"
	"slices"
	"testing"

	"cairn/api"
	"cairn/ring"
)

func TestP1307Block(t *testing.T) {
	s, d := fresh(t, 40)
	for _, other := range []int{1, 3} {
		mustWrite(t, d, false, func() { mustMend(t, s, three(), other, block(0), 0) })
	}
	mustDo(t, s, three(), put(block(0), stamp(7, 4), "abc"))
	mustWrite(t, d, false, func() { mustMend(t, s, three(), 1, block(0), 0) })
}

// Of a bucket it asks from behind its edge on.
func TestP1307Bucket(t *testing.T) {
	for letters, want := range map[string]int{"": 1, "D": 2, "DDD": 4, ".D": 1, "a": 1, "p": 1, "Da": 2, "D.D": 2, "DDaD": 3, "DDpD": 3} {
		s, d := row(t, letters)
		was := view(s, three())
		mustWrite(t, d, false, func() {
			mustMend(t, s, three(), 1, dir, want)
			mustMend(t, s, three(), 3, dir, want)
			mustMend(t, s, three(), 3, api.Key{Kind: api.KBucket}, 1)
		})
		if view(s, three()) != was {
			t.Errorf("%s: it holds something else", letters)
		}
		for upto := range 4 {
			if _, err := s.Trim(number, upto); err != api.OK {
				t.Fatal(err)
			}
			mustMend(t, s, three(), 3, dir, want)
		}
	}
}

func TestP1307Refused(t *testing.T) {
	s, d := row(t, "DD")
	wrong := []api.Key{{}, {Kind: 4}, {Kind: -1}, {Kind: api.KBlock}, {Kind: api.KBlock, A: 256, B: 1}, {Kind: api.KBlock, A: 1, B: 1, C: -1}, {Kind: api.KBlock, A: 1, B: api.MaxNum + 1}, {Kind: api.KBlock, A: 1, B: 1, C: api.MaxIndex}, {Kind: api.KBucket, A: -1}, {Kind: api.KBucket, A: 2}, {Kind: api.KBucket, A: 1, B: 1}, {Kind: api.KBucket, A: 1, C: 1}, at(1), at(0), at(last), at(last + 1)}
	mustWrite(t, d, false, func() {
		for _, other := range []int{math.MinInt, -1, 0, me, 4, 255, 256, math.MaxInt} {
			for _, k := range append(wrong, dir, block(0)) {
				mustRefuseMend(t, s, other, k, api.ErrAddr)
			}
		}
		for _, k := range wrong {
			mustRefuseMend(t, s, 1, k, api.ErrKey)
			mustRefuseMend(t, s, 3, k, api.ErrKey)
		}
	})
}

// Both must stand in the group: else ErrAddr, but behind ErrKey.
func TestP1307Groups(t *testing.T) {
	c := seven()
	r, err := ring.New(c)
	if err != api.OK {
		t.Fatal(err)
	}
	s := started(t, c, newDisk(t, 40))
	keys := []api.Key{}
	for n := range 16 {
		keys = append(keys, api.Key{Kind: api.KBucket, A: n}, block(n))
	}
	seen := map[[2]bool]int{}
	for _, k := range keys {
		group, err := r.Group(k)
		if err != api.OK {
			t.Fatal(err)
		}
		for _, other := range c.Servers {
			if other == me {
				mustRefuseMend(t, s, other, k, api.ErrAddr)
				continue
			}
			both := [2]bool{slices.Contains(group, me), slices.Contains(group, other)}
			seen[both]++
			if both == [2]bool{true, true} {
				mustMend(t, s, c, other, k, k.Kind-1)
			} else {
				mustRefuseMend(t, s, other, k, api.ErrAddr)
			}
			mustRefuseMend(t, s, other, api.Key{Kind: api.KInstance, A: k.A % 16, B: 1}, api.ErrKey)
		}
	}
	if len(seen) != 4 {
		t.Fatalf("%v: not each pair is there", seen)
	}
}

// pass carries a mend of one server with another to its end.
func pass(t *testing.T, c api.Config, at map[int]machine, from, to int, k api.Key) int {
	t.Helper()
	list, err := at[from].Mend(to, k)
	if err != api.OK {
		t.Fatal(err)
	}
	n := 0
	for len(list) > 0 {
		if len(list) != 1 || n > 1000 {
			t.Fatalf("%d packets, behind %d", len(list), n)
		}
		list = at[list[0].To.Id].Step(list[0].Data)
		n++
	}
	return n
}

// A mend goes on till all is there, server to server.
func TestP1307ToItsEnd(t *testing.T) {
	c := three()
	all := map[int]machine{1: startedAs(t, c, 1, newDisk(t, 500)), 2: startedAs(t, c, 2, newDisk(t, 500)), 3: startedAs(t, c, 3, newDisk(t, 500))}
	hand := func(to int, m api.Msg) {
		m.To = node(to)
		if m.From == m.To {
			m.From = node(1)
		}
		all[to].Step(encoded(t, c, m))
	}
	for n := 1; n <= 150; n += 50 {
		hand(3, have(n, false, commands(n, n+49)...))
	}
	hand(1, learned(at(160), command(160)))
	hand(1, put(block(0), stamp(5, 5), "abc"))
	hand(3, put(block(0), stamp(4, 5), "old"))
	if got, err := all[3].Trim(number, 20); got != 20 || err != api.OK {
		t.Fatal(got, err)
	}
	// MAsk {1}; the bucket, More; MAsk {21}; 64, More; MAsk {85}; 64, More; MAsk {149}; 2
	if n := pass(t, c, all, 2, 3, dir); n != 8 {
		t.Errorf("%d messages", n)
	}
	pass(t, c, all, 2, 1, dir)
	for _, from := range []int{1, 3} {
		for _, to := range []int{1, 2, 3} {
			if from != to {
				pass(t, c, all, from, to, dir)
			}
		}
	}
	for id, s := range all {
		if s.Bucket(number).Upto != 20 || s.Instance(at(160)) != decided(160) || s.Instance(at(151)) != clear {
			t.Errorf("server %d: Upto %d", id, s.Bucket(number).Upto)
		}
		for n := 21; n <= 150; n++ {
			if s.Instance(at(n)) != decided(n) {
				t.Errorf("server %d, instance %d", id, n)
			}
		}
	}
	for _, id := range []int{2, 3} {
		if n := pass(t, c, all, id, 1, block(0)); n != 2 {
			t.Errorf("%d messages", n)
		}
		pass(t, c, all, 1, id, block(0))
		if b := all[id].Block(block(0)); !same(b, api.Block{Stamp: stamp(5, 5), Data: []byte("abc")}) {
			t.Errorf("%+v", b)
		}
	}
}
