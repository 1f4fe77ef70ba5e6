package tally_test

import (
	"cmp"
	"math"
	"slices"
	"testing"

	"cairn/api"
	"cairn/tally"
)

// pair has a worth, by which it is ordered, and a place, by which it is known.
type pair struct{ worth, place int }

func lower(a, b pair) bool { return a.worth < b.worth }

func notHigher(a, b pair) bool { return a.worth <= b.worth }

func pairs(worths []int) []pair {
	var list []pair
	for i, w := range worths {
		list = append(list, pair{w, i})
	}
	return list
}

func mustBest[T comparable](t *testing.T, less func(a, b T) bool, want T, there bool, l ...T) {
	t.Helper()
	if v, is := tally.Best(less, l...); v != want || is != there {
		t.Fatalf("Best of %v: %v, %v, not %v, %v", l, v, is, want, there)
	}
}

func TestP606OfNone(t *testing.T) {
	mustBest(t, lower, pair{}, false)
	mustBest(t, lower, pair{}, false, []pair{}...)
	mustBest(t, func(a, b int) bool { return true }, 0, false)
	mustBest(t, func(a, b string) bool { return true }, "", false)
	mustBest(t, func(a, b *int) bool { return true }, nil, false)
	if l, is := tally.Best(func(a, b []int) bool { return true }); l != nil || is {
		t.Errorf("Best of no lists: %v, %v", l, is)
	}
}

func TestP606OfOne(t *testing.T) {
	never := func(a, b pair) bool { t.Errorf("less is called with %v, %v", a, b); return true }
	mustBest(t, never, pair{5, 1}, true, pair{5, 1})
	mustBest(t, never, pair{-5, 1}, true, pair{-5, 1})
	mustBest(t, never, pair{}, true, pair{})
}

func TestP606FirstOfAlikeOnes(t *testing.T) {
	mustBest(t, lower, pair{5, 1}, true, pairs([]int{2, 5, 5, 1})...)
	mustBest(t, lower, pair{5, 0}, true, pairs([]int{5, 5, 5})...)
	mustBest(t, lower, pair{-1, 2}, true, pairs([]int{-2, -3, -1, -1, -9})...)
}

func TestP606LastOfAlikeOnes(t *testing.T) {
	mustBest(t, notHigher, pair{5, 2}, true, pairs([]int{2, 5, 5, 1})...)
	mustBest(t, notHigher, pair{5, 2}, true, pairs([]int{5, 5, 5})...)
	mustBest(t, notHigher, pair{-1, 3}, true, pairs([]int{-2, -3, -1, -1, -9})...)
}

// What less says alone counts, be it an order or none.
func TestP606LessThatIsNoOrder(t *testing.T) {
	list := pairs([]int{2, 5, 5, 1, 3})
	mustBest(t, func(a, b pair) bool { return true }, list[4], true, list...)
	mustBest(t, func(a, b pair) bool { return false }, list[0], true, list...)
	next := func(a, b pair) bool { return (a.worth+1)%3 == b.worth } // 0, 1, 2, 0, ..
	mustBest(t, next, pair{1, 4}, true, pairs([]int{0, 1, 2, 0, 1, 0, 0})...)
	mustBest(t, next, pair{2, 3}, true, pairs([]int{1, 0, 1, 2, 1})...)
	mustBest(t, next, pair{0, 0}, true, pairs([]int{0, 2, 2})...)
}

// Which calls of less there are: as many as values but one, each with the one before and the next.
func TestP606CallsOfLess(t *testing.T) {
	for _, worths := range rows(5, 1, 2, 3) {
		if len(worths) == 0 {
			continue
		}
		for _, order := range []func(a, b pair) bool{lower, notHigher} {
			list := pairs(worths)
			var calls, want [][2]pair
			best := list[0]
			for _, v := range list[1:] {
				want = append(want, [2]pair{best, v})
				if order(best, v) {
					best = v
				}
			}
			mustBest(t, func(a, b pair) bool {
				calls = append(calls, [2]pair{a, b})
				return order(a, b)
			}, best, true, list...)
			if !slices.Equal(calls, want) {
				t.Fatalf("Best of %v calls less with %v, not with %v", list, calls, want)
			}
			if len(calls) != len(list)-1 {
				t.Fatalf("Best of %v calls less %d times", list, len(calls))
			}
		}
	}
}

func TestP606OtherTypes(t *testing.T) {
	mustBest(t, cmp.Less[string], "plum", true, "fig", "plum", "pear", "")
	mustBest(t, cmp.Less[float64], 2.5, true, -1, 2.5, math.Inf(-1))
	mustBest(t, func(a, b float64) bool { return a < b }, 1, true, 1, math.NaN(), 1)
	lists := [][]int{{1}, {2, 3}, {4, 5}, nil}
	l, is := tally.Best(func(a, b []int) bool { return len(a) < len(b) }, lists...)
	if !is || len(l) != 2 || &l[0] != &lists[1][0] {
		t.Errorf("Best of lists: %v, %v: not the second one itself", l, is)
	}
	f, is := tally.Best(func(a, b func() int) bool { return a() < b() }, func() int { return 3 }, func() int { return 8 })
	if !is || f() != 8 {
		t.Error("Best of functions")
	}
}

// before is P607's order once more, by library means.
func before(a, b api.Stamp) bool {
	return cmp.Or(cmp.Compare(a.N, b.N), cmp.Compare(a.Client, b.Client)) < 0
}

func edgeStamps() []api.Stamp {
	numbers := []int{math.MinInt, -2, -1, 0, 1, 2, 255, 256, 1 << 40, 1<<40 + 1, math.MaxInt}
	var list []api.Stamp
	for _, n := range numbers {
		for _, c := range numbers {
			list = append(list, stamp(n, c))
		}
	}
	return list
}

func TestP607Less(t *testing.T) {
	for _, c := range []struct {
		a, b api.Stamp
		want bool
	}{
		{stamp(1, 9), stamp(2, 1), true},
		{stamp(2, 1), stamp(1, 9), false},
		{stamp(2, 1), stamp(2, 1), false},
		{stamp(2, 1), stamp(2, 3), true},
		{stamp(2, 3), stamp(2, 1), false},
		{stamp(0, 0), stamp(0, 0), false},
		{stamp(0, 0), stamp(1, 1), true},
		{stamp(-1, 5), stamp(0, 0), true},
		{stamp(0, -1), stamp(0, 0), true},
		{stamp(math.MinInt, 0), stamp(math.MaxInt, 0), true},
		{stamp(7, math.MaxInt), stamp(7, math.MinInt), false},
	} {
		if is := tally.Less(c.a, c.b); is != c.want {
			t.Errorf("Less(%v, %v): %v", c.a, c.b, is)
		}
	}
}

func TestP607LessOfEdges(t *testing.T) {
	for _, a := range edgeStamps() {
		for _, b := range edgeStamps() {
			if is := tally.Less(a, b); is != before(a, b) {
				t.Fatalf("Less(%v, %v): %v", a, b, is)
			}
		}
	}
}

func mustMax(t *testing.T, want api.Stamp, l ...api.Stamp) {
	t.Helper()
	if s := tally.Max(l...); s != want {
		t.Fatalf("Max of %v: %v, not %v", l, s, want)
	}
}

func TestP607Max(t *testing.T) {
	mustMax(t, stamp(0, 0))
	mustMax(t, stamp(0, 0), []api.Stamp{}...)
	mustMax(t, stamp(0, 0), stamp(0, 0))
	mustMax(t, stamp(4, 7), stamp(4, 7))
	mustMax(t, stamp(4, 7), stamp(0, 0), stamp(4, 7), stamp(0, 0))
	mustMax(t, stamp(2, 3), stamp(2, 1), stamp(2, 3), stamp(1, 9))
	mustMax(t, stamp(2, 3), stamp(2, 3), stamp(2, 1), stamp(2, 3), stamp(2, 2))
	mustMax(t, stamp(9, 1), stamp(1, 9), stamp(9, 1))
}

func TestP607MaxBelowNone(t *testing.T) {
	mustMax(t, stamp(-5, 2), stamp(-5, 2))
	mustMax(t, stamp(-1, 0), stamp(-2, 0), stamp(-1, 0))
	mustMax(t, stamp(0, -1), stamp(-1, 9), stamp(0, -1), stamp(0, -2))
	mustMax(t, stamp(math.MinInt, math.MinInt), stamp(math.MinInt, math.MinInt))
	mustMax(t, stamp(0, 0), stamp(-1, 9), stamp(0, 0))
}

func TestP607MaxOfMany(t *testing.T) {
	all := edgeStamps()
	for from := range all {
		list := append(slices.Clone(all[from:]), all[:from]...)
		mustMax(t, stamp(math.MaxInt, math.MaxInt), list...)
		for n := 1; n < len(list); n += 7 {
			part := slices.Clone(list[:n])
			slices.SortFunc(part, func(a, b api.Stamp) int {
				return cmp.Or(cmp.Compare(a.N, b.N), cmp.Compare(a.Client, b.Client))
			})
			mustMax(t, part[n-1], list[:n]...)
		}
	}
}
