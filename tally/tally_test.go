package tally_test

import (
	"math"
	"slices"
	"testing"

	"cairn/tally"
)

func TestP601NewHasNoAnswers(t *testing.T) {
	for _, need := range []int{math.MinInt, -1, 0, 1, 3, 4, math.MaxInt} {
		x := tally.New[string]([]int{7, 5, 6}, need)
		mustGet(t, x)
		mustMiss(t, x, 7, 5, 6)
		mustEnough(t, x, need <= 0)
	}
}

func TestP601GroupOfUnlikeOnes(t *testing.T) {
	for _, c := range []struct{ group, want []int }{
		{nil, nil},
		{[]int{}, nil},
		{[]int{5}, []int{5}},
		{[]int{5, 5, 5}, []int{5}},
		{[]int{4, 4, 6}, []int{4, 6}},
		{[]int{4, 6, 4}, []int{4, 6}},
		{[]int{6, 4, 4, 6, 5, 4}, []int{6, 4, 5}},
		{[]int{9, 8, 7, 8, 9, 1}, []int{9, 8, 7, 1}},
		{[]int{0, -1, 256, 0, -1}, []int{0, -1, 256}},
		{[]int{math.MaxInt, math.MinInt, math.MaxInt}, []int{math.MaxInt, math.MinInt}},
	} {
		x := tally.New[int](c.group, len(c.want))
		mustMiss(t, x, c.want...)
		var all []said[int]
		for i, server := range c.want {
			mustTake(t, x, server, 10*i, i == len(c.want)-1)
			mustTake(t, x, server, 10*i+1, false) // its second place in the group gives it no second answer
			all = append(all, said[int]{server, 10 * i})
		}
		mustEnough(t, x, true)
		mustGet(t, x, all...)
		mustMiss(t, x)
	}
}

func TestP601NumbersThatNoServerHas(t *testing.T) {
	x := tally.New[string]([]int{math.MinInt, 0, 1 << 40, -3, math.MaxInt}, 4)
	for _, server := range []int{1, -1, 3, 256} {
		mustTake(t, x, server, "none of the group", false)
	}
	mustTake(t, x, math.MaxInt, "a", false)
	mustTake(t, x, 0, "b", false)
	mustTake(t, x, -3, "c", false)
	mustTake(t, x, math.MinInt, "d", true)
	mustGet(t, x, said[string]{math.MinInt, "d"}, said[string]{0, "b"}, said[string]{-3, "c"}, said[string]{math.MaxInt, "a"})
	mustMiss(t, x, 1<<40)
}

func TestP602FirstAnswerCounts(t *testing.T) {
	x := tally.New[string]([]int{3, 1, 2}, 3)
	mustTake(t, x, 1, "first", false)
	mustTake(t, x, 1, "second", false)
	mustTake(t, x, 1, "first", false)
	mustGet(t, x, said[string]{1, "first"})
	mustTake(t, x, 3, "third", false)
	mustTake(t, x, 1, "fourth", false)
	mustEnough(t, x, false) // five answers, of two servers
	mustTake(t, x, 2, "fifth", true)
	mustTake(t, x, 2, "sixth", false)
	mustGet(t, x, said[string]{3, "third"}, said[string]{1, "first"}, said[string]{2, "fifth"})
}

// The zero value is an answer as any other.
func TestP602ZeroValueCounts(t *testing.T) {
	x := tally.New[string]([]int{3, 1, 2}, 2)
	mustTake(t, x, 1, "", false)
	mustGet(t, x, said[string]{1, ""})
	mustMiss(t, x, 3, 2)
	mustTake(t, x, 1, "again", false)
	mustTake(t, x, 2, "", true)
	mustGet(t, x, said[string]{1, ""}, said[string]{2, ""})
}

func TestP602StrangersChangeNothing(t *testing.T) {
	x := tally.New[string]([]int{3, 1, 2}, 1)
	for _, server := range []int{0, 4, 9, -1, -3, math.MaxInt, math.MinInt} {
		mustTake(t, x, server, "stranger", false)
		mustTake(t, x, server, "stranger", false)
		mustGet(t, x)
		mustMiss(t, x, 3, 1, 2)
		mustEnough(t, x, false)
	}
	mustTake(t, x, 2, "b", true)
	mustGet(t, x, said[string]{2, "b"})
}

func TestP602BehindEnough(t *testing.T) {
	x := tally.New[string]([]int{1, 2, 3, 4}, 2)
	mustTake(t, x, 4, "d", false)
	mustTake(t, x, 2, "b", true)
	for range 2 {
		for server := range 6 {
			mustTake(t, x, server, "late", false)
			mustGet(t, x, said[string]{2, "b"}, said[string]{4, "d"})
			mustMiss(t, x, 1, 3)
			mustEnough(t, x, true)
		}
	}
}

func TestP603HowManyAreNeeded(t *testing.T) {
	group := []int{3, 1, 2}
	for _, need := range []int{math.MinInt, -2, -1, 0, 1, 2, 3, 4, 255, math.MaxInt} {
		x := tally.New[int](group, need)
		mustEnough(t, x, need <= 0)
		for i, server := range group {
			mustTake(t, x, server, i, i+1 == need)
			mustEnough(t, x, i+1 >= need)
		}
		if count := min(max(need, 0), 3); len(gather(x.Got())) != count || len(x.Missing()) != 3-count {
			t.Errorf("need %d: Got %v, Missing %v", need, gather(x.Got()), x.Missing())
		}
	}
}

func TestP603NoneNeeded(t *testing.T) {
	for _, need := range []int{0, -1, math.MinInt} {
		x := tally.New[string]([]int{5, 4}, need)
		for range 2 {
			mustEnough(t, x, true)
			mustTake(t, x, 5, "x", false)
			mustTake(t, x, 9, "x", false)
			mustGet(t, x)
			mustMiss(t, x, 5, 4)
		}
	}
}

func TestP603GroupOfNone(t *testing.T) {
	for _, need := range []int{math.MinInt, -1, 0, 1, 2, math.MaxInt} {
		for _, group := range [][]int{nil, {}} {
			x := tally.New[string](group, need)
			mustEnough(t, x, need <= 0)
			mustTake(t, x, 0, "x", false)
			mustTake(t, x, 1, "x", false)
			mustEnough(t, x, need <= 0)
			mustGet(t, x)
			mustMiss(t, x)
		}
	}
}

func TestP603GroupOfOne(t *testing.T) {
	for _, need := range []int{-1, 0, 1, 2} {
		x := tally.New[string]([]int{8}, need)
		mustTake(t, x, 8, "x", need == 1)
		mustEnough(t, x, need <= 1)
		if need <= 0 {
			mustGet(t, x)
			mustMiss(t, x, 8)
		} else {
			mustGet(t, x, said[string]{8, "x"})
			mustMiss(t, x)
		}
	}
}

func TestP604GroupsOrder(t *testing.T) {
	group := []int{30, 10, 50, 20, 40}
	for _, order := range [][]int{{0, 1, 2, 3, 4}, {4, 3, 2, 1, 0}, {2, 0, 4, 1, 3}, {1, 3, 0, 2, 4}} {
		x := tally.New[int](group, 9)
		var taken []int
		for _, place := range order {
			mustTake(t, x, group[place], group[place]+1, false)
			taken = append(taken, group[place])
			var got []said[int]
			var missing []int
			for _, server := range group {
				if slices.Contains(taken, server) {
					got = append(got, said[int]{server, server + 1})
				} else {
					missing = append(missing, server)
				}
			}
			mustGet(t, x, got...)
			mustMiss(t, x, missing...)
		}
	}
}

func TestP604AskingChangesNothing(t *testing.T) {
	x := tally.New[string]([]int{3, 1, 2}, 2)
	mustTake(t, x, 2, "b", false)
	for range 3 {
		mustGet(t, x, said[string]{2, "b"})
		mustMiss(t, x, 3, 1)
		mustEnough(t, x, false)
	}
	mustTake(t, x, 3, "c", true)
}

// A group of more servers than there are ids, so that no order of a map's own stays unseen.
func TestP604GreatGroup(t *testing.T) {
	const count = 5000
	var group []int
	for i := range 2 * count {
		group = append(group, i*7919%count)
	}
	x, p := tally.New[int](group, count-1), plainOf(group, count-1)
	for i := range count {
		server := i * 6007 % count
		mustTake(t, x, server, i, i == count-2)
		if !p.enough() {
			p.count = append(p.count, said[int]{server, i})
		}
	}
	answers := make([]int, count)
	for _, a := range p.count {
		answers[a.server] = a.value
	}
	var want []said[int]
	for _, server := range p.group {
		if server != (count-1)*6007%count {
			want = append(want, said[int]{server, answers[server]})
		}
	}
	mustGet(t, x, want...)
	mustMiss(t, x, (count-1)*6007%count)
}

// Each row of answers to each small group, for each number that may be needed, held against the chapter's words.
func TestP602EveryRowOfAnswers(t *testing.T) {
	answers := rows(5, 1, 2, 3, 9)
	for _, group := range append(rows(3, 1, 2, 3), []int{3, 1, 3, 2}, []int{2, 2, 1, 1, 3, 9}) {
		for need := -1; need <= len(group)+1; need++ {
			for _, row := range answers {
				if len(row) < 5 { // the longer ones begin with these
					continue
				}
				x, p := tally.New[int](group, need), plainOf(group, need)
				for i, server := range row {
					if is, want := x.Take(server, i), p.take(server, i); is != want {
						t.Fatalf("group %v, need %d, answers of %v: %v by the last one, not %v", group, need, row[:i+1], is, want)
					}
				}
				mustAgree(t, x, p)
			}
		}
	}
}

// Behind each single answer everything is as the words say, not just behind the last one.
func TestP604BehindEveryAnswer(t *testing.T) {
	for _, group := range rows(3, 1, 2, 3) {
		for need := 0; need <= 3; need++ {
			for _, row := range rows(3, 1, 2, 3) {
				x, p := tally.New[int](group, need), plainOf(group, need)
				mustAgree(t, x, p)
				for i, server := range row {
					mustTake(t, x, server, i, p.take(server, i))
					mustAgree(t, x, p)
				}
			}
		}
	}
}

func TestP3SameAgain(t *testing.T) {
	var first []said[int]
	for turn := range 20 {
		x := tally.New[int]([]int{8, 3, 5, 1, 9, 2, 7}, 5)
		for i, server := range []int{2, 9, 4, 8, 1, 1, 7, 3} {
			x.Take(server, i)
		}
		if list := gather(x.Got()); turn == 0 {
			first = list
		} else if !slices.Equal(list, first) {
			t.Fatalf("Got: %v, then %v", first, list)
		}
	}
}
