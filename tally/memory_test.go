package tally_test

import (
	"runtime"
	"slices"
	"testing"
	"weak"

	"cairn/api"
	"cairn/tally"
)

// roomy has the same items, with others in its spare room.
func roomy[T any](list []T, spare T) []T {
	room := append(slices.Clone(list), spare, spare, spare)
	return room[:len(list)]
}

// spoil fills a list, its spare room too.
func spoil[T any](list []T, with T) {
	list = list[:cap(list)]
	for i := range list {
		list[i] = with
	}
}

func mustStand[T comparable](t *testing.T, list, want []T) {
	t.Helper()
	if !slices.Equal(list[:cap(list)], want) {
		t.Fatalf("what was handed in is %v now, its spare room too; it was %v", list[:cap(list)], want)
	}
}

func TestP605GroupIsNotKept(t *testing.T) {
	group := roomy([]int{3, 1, 3, 2}, 77)
	x := tally.New[string](group, 2)
	spoil(group, 9)
	mustMiss(t, x, 3, 1, 2)
	mustTake(t, x, 9, "stranger", false)
	mustTake(t, x, 77, "stranger", false)
	mustTake(t, x, 2, "b", false)
	spoil(group, 1)
	mustTake(t, x, 3, "c", true)
	mustGet(t, x, said[string]{3, "c"}, said[string]{2, "b"})
	mustMiss(t, x, 1)
}

func TestP2GroupIsNotChanged(t *testing.T) {
	for _, servers := range [][]int{{3, 1, 2}, {3, 3, 1, 3, 2, 1}, {}} {
		group := roomy(servers, 77)
		before := slices.Clone(group[:cap(group)])
		x := tally.New[string](group, 2)
		mustStand(t, group, before)
		for server := range 4 {
			x.Take(server, "x")
			gather(x.Got())
			spoil(x.Missing(), 55)
			mustStand(t, group, before)
		}
	}
}

func TestP2MissingIsTheCallersOwn(t *testing.T) {
	x := tally.New[string]([]int{3, 1, 2, 5, 4}, 4)
	a, b := x.Missing(), x.Missing()
	spoil(a, 99)
	if !slices.Equal(b, []int{3, 1, 2, 5, 4}) {
		t.Fatalf("two answers of Missing share memory: %v", b)
	}
	spoil(b, 98)
	mustMiss(t, x, 3, 1, 2, 5, 4)
	mustTake(t, x, 99, "stranger", false)
	mustTake(t, x, 1, "a", false)
	mustTake(t, x, 4, "d", false)
	later := x.Missing()
	spoil(x.Missing(), 97)
	mustTake(t, x, 3, "c", false)
	if !slices.Equal(later, []int{3, 2, 5}) {
		t.Fatalf("what Missing told has become %v", later)
	}
	mustGet(t, x, said[string]{3, "c"}, said[string]{1, "a"}, said[string]{4, "d"})
	mustMiss(t, x, 2, 5)
}

func TestP605SameList(t *testing.T) {
	x := tally.New[[]int]([]int{2, 1}, 2)
	a, b := roomy([]int{1, 2, 3}, 77), roomy([]int{4}, 77)
	mustTake(t, x, 1, a, false)
	mustTake(t, x, 2, b, true)
	for range 2 {
		lists := map[int][]int{}
		for server, list := range x.Got() {
			lists[server] = list
		}
		for server, want := range map[int][]int{1: a, 2: b} {
			if l := lists[server]; len(l) != len(want) || cap(l) != cap(want) || &l[0] != &want[0] {
				t.Fatalf("the list of server %d is not the one that was handed in", server)
			}
		}
	}
	a[1] = 50
	for server, list := range x.Got() {
		if server == 1 && !slices.Equal(list, []int{1, 50, 3}) {
			t.Fatalf("the list of server 1 is %v", list)
		}
	}
	if !slices.Equal(a[:6], []int{1, 50, 3, 77, 77, 77}) {
		t.Fatalf("the list that was handed in is %v now, its spare room too", a[:6])
	}
}

func TestP605NoListAndEmptyOnes(t *testing.T) {
	x := tally.New[[]int]([]int{1, 2}, 2)
	mustTake(t, x, 2, nil, false)
	mustTake(t, x, 2, []int{1}, false)
	mustTake(t, x, 1, []int{}, true)
	list := gather(x.Got())
	if len(list) != 2 || list[0].server != 1 || len(list[0].value) != 0 || list[1].server != 2 || len(list[1].value) != 0 {
		t.Fatalf("Got: %v", list)
	}
}

// What a struct holds is told with it: lists, maps, pointers in it are the same ones.
func TestP605Structs(t *testing.T) {
	type held struct {
		tag   api.Stamp
		block []byte
		names map[string]int
		next  *held
	}
	h := held{stamp(4, 1), []byte("block"), map[string]int{"plum": 1}, &held{}}
	x := tally.New[held]([]int{7}, 1)
	mustTake(t, x, 7, h, true)
	h.tag = stamp(9, 9)
	h.block[0] = 'c'
	h.names["fig"] = 2
	for server, v := range x.Got() {
		if server != 7 || v.tag != stamp(4, 1) || &v.block[0] != &h.block[0] || v.names["fig"] != 2 || v.next != h.next {
			t.Fatalf("Got: %d %v", server, v)
		}
	}
}

func TestP605OtherTypes(t *testing.T) {
	texts := tally.New[string]([]int{1}, 1)
	mustTake(t, texts, 1, "a\x00\xff", true)
	mustGet(t, texts, said[string]{1, "a\x00\xff"})
	stamps := tally.New[api.Stamp]([]int{1, 2}, 2)
	mustTake(t, stamps, 2, stamp(4, 2), false)
	mustTake(t, stamps, 1, stamp(-4, 1), true)
	mustGet(t, stamps, said[api.Stamp]{1, stamp(-4, 1)}, said[api.Stamp]{2, stamp(4, 2)})
	bools := tally.New[bool]([]int{1, 2}, 2)
	mustTake(t, bools, 1, false, false)
	mustMiss(t, bools, 2)
	mustTake(t, bools, 1, true, false)
	mustTake(t, bools, 2, true, true)
	mustGet(t, bools, said[bool]{1, false}, said[bool]{2, true})
	things := tally.New[any]([]int{1, 2, 3}, 3)
	mustTake(t, things, 3, any("x"), false)
	mustTake(t, things, 1, nil, false)
	mustTake(t, things, 2, any(2), true)
	mustGet(t, things, said[any]{1, nil}, said[any]{2, 2}, said[any]{3, "x"})
	none := tally.New[struct{}]([]int{1, 2}, 1)
	mustTake(t, none, 2, struct{}{}, true)
	mustGet(t, none, said[struct{}]{2, struct{}{}})
	messages := tally.New[api.Msg]([]int{1}, 1)
	m := api.Msg{Kind: api.MValue, From: api.Addr{Id: 1}, Op: 3, Block: []byte{1, 2}}
	mustTake(t, messages, 1, m, true)
	for _, v := range messages.Got() {
		if v.Kind != m.Kind || v.From != m.From || v.Op != 3 || &v.Block[0] != &m.Block[0] {
			t.Fatalf("Got: %v", v)
		}
	}
}

type heavy [4096]int

// takeHeavy takes an answer that nobody else has.
func takeHeavy(x *tally.Tally[*heavy], server int) weak.Pointer[heavy] {
	v := new(heavy)
	x.Take(server, v)
	return weak.Make(v)
}

// Of what is handed in nothing is kept but the answers that count.
func TestP605OtherAnswersAreNotKept(t *testing.T) {
	x := tally.New[*heavy]([]int{1, 2, 3}, 2)
	counted := takeHeavy(x, 1)
	twice, stranger := takeHeavy(x, 1), takeHeavy(x, 9)
	other := takeHeavy(x, 2)
	late, again := takeHeavy(x, 3), takeHeavy(x, 2)
	runtime.GC()
	runtime.GC()
	if counted.Value() == nil || other.Value() == nil {
		t.Error("an answer that counts is gone")
	}
	for i, p := range []weak.Pointer[heavy]{twice, stranger, late, again} {
		if p.Value() != nil {
			t.Errorf("an answer that does not count is kept: number %d", i)
		}
	}
	runtime.KeepAlive(x)
}

func TestP2BestAndMaxChangeNothing(t *testing.T) {
	list := roomy(pairs([]int{2, 5, 5, 1}), pair{77, 77})
	before := slices.Clone(list[:cap(list)])
	tally.Best(lower, list...)
	tally.Best(notHigher, list...)
	mustStand(t, list, before)
	stamps := roomy([]api.Stamp{stamp(2, 1), stamp(2, 3), stamp(1, 9)}, stamp(77, 77))
	was := slices.Clone(stamps[:cap(stamps)])
	tally.Max(stamps...)
	mustStand(t, stamps, was)
}
