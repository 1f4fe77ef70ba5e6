package tally_test

import (
	"slices"
	"testing"

	"cairn/tally"
)

// three has the answers of all its three servers, and needs one more.
func three() *tally.Tally[string] {
	x := tally.New[string]([]int{3, 1, 2}, 4)
	x.Take(1, "a")
	x.Take(2, "b")
	x.Take(3, "c")
	return x
}

var ofThree = []said[string]{{3, "c"}, {1, "a"}, {2, "b"}}

func TestP5LeftEarly(t *testing.T) {
	seq := three().Got()
	for stop := range 4 {
		var list []said[string]
		for server, v := range seq {
			if len(list) == stop {
				break
			}
			list = append(list, said[string]{server, v})
		}
		if !slices.Equal(list, ofThree[:stop]) {
			t.Fatalf("left behind %d: %v", stop, list)
		}
	}
	if list := gather(seq); !slices.Equal(list, ofThree) {
		t.Fatalf("behind those: %v", list)
	}
	calls := 0
	seq(func(int, string) bool { calls++; return calls < 2 })
	if calls != 2 {
		t.Fatalf("one that says no at the second is called %d times", calls)
	}
}

func TestP5AgainAndWithinItself(t *testing.T) {
	seq := three().Got()
	for range 2 {
		if list := gather(seq); !slices.Equal(list, ofThree) {
			t.Fatalf("again: %v", list)
		}
	}
	var outer []said[string]
	for server, v := range seq {
		if list := gather(seq); !slices.Equal(list, ofThree) {
			t.Fatalf("within itself: %v", list)
		}
		outer = append(outer, said[string]{server, v})
	}
	if !slices.Equal(outer, ofThree) {
		t.Fatalf("around itself: %v", outer)
	}
}

func TestP5AsItWasWhenMade(t *testing.T) {
	x := tally.New[string]([]int{3, 1, 2}, 3)
	none := x.Got()
	mustTake(t, x, 1, "a", false)
	one := x.Got()
	mustTake(t, x, 3, "c", false)
	two := x.Got()
	mustTake(t, x, 2, "b", true)
	for range 2 {
		for i, want := range [][]said[string]{nil, {{1, "a"}}, {{3, "c"}, {1, "a"}}} {
			if list := gather([]func(func(int, string) bool){none, one, two}[i]); !slices.Equal(list, want) {
				t.Fatalf("made at %d answers: %v", i, list)
			}
		}
	}
	mustGet(t, x, ofThree...)
}

func TestP5AnswersTakenMeanwhile(t *testing.T) {
	x := tally.New[string]([]int{3, 1, 2, 4}, 4)
	mustTake(t, x, 1, "a", false)
	mustTake(t, x, 2, "b", false)
	var list []said[string]
	for server, v := range x.Got() {
		list = append(list, said[string]{server, v})
		mustTake(t, x, 2, "other", false)
		if server == 1 {
			mustTake(t, x, 3, "c", false)
			mustMiss(t, x, 4)
			mustGet(t, x, ofThree...)
		} else {
			mustTake(t, x, 4, "d", true)
			mustEnough(t, x, true)
		}
	}
	if !slices.Equal(list, []said[string]{{1, "a"}, {2, "b"}}) {
		t.Fatalf("answers were taken meanwhile: %v", list)
	}
	mustGet(t, x, append(slices.Clone(ofThree), said[string]{4, "d"})...)
}

func TestP5SequenceOfNone(t *testing.T) {
	for _, x := range []*tally.Tally[string]{tally.New[string](nil, 1), tally.New[string]([]int{1}, 1), tally.New[string]([]int{1}, 0)} {
		seq := x.Got()
		x.Take(1, "a")
		for server, v := range seq {
			t.Fatalf("of no answers: %d %q", server, v)
		}
	}
}

func TestP7TwoTalliesInTurns(t *testing.T) {
	group := []int{3, 1, 2}
	x, y := tally.New[string](group, 2), tally.New[string](group, 3)
	mustTake(t, x, 1, "xa", false)
	mustMiss(t, y, 3, 1, 2)
	mustTake(t, y, 2, "yb", false)
	mustTake(t, y, 1, "ya", false)
	mustGet(t, x, said[string]{1, "xa"})
	seq := y.Got()
	mustTake(t, x, 2, "xb", true)
	mustEnough(t, y, false)
	mustTake(t, y, 3, "yc", true)
	mustTake(t, x, 3, "xc", false)
	mustGet(t, x, said[string]{1, "xa"}, said[string]{2, "xb"})
	mustGet(t, y, said[string]{3, "yc"}, said[string]{1, "ya"}, said[string]{2, "yb"})
	if list := gather(seq); !slices.Equal(list, []said[string]{{1, "ya"}, {2, "yb"}}) {
		t.Fatalf("the second one's earlier answers: %v", list)
	}
	mustMiss(t, x, 3)
	mustMiss(t, y)
}

// One sequence ranged over within another's.
func TestP7TwoSequences(t *testing.T) {
	x, y := three(), tally.New[string]([]int{9}, 1)
	mustTake(t, y, 9, "z", true)
	var list []said[string]
	for server, v := range x.Got() {
		list = append(list, said[string]{server, v})
		list = append(list, gather(y.Got())...)
	}
	if !slices.Equal(list, []said[string]{{3, "c"}, {9, "z"}, {1, "a"}, {9, "z"}, {2, "b"}, {9, "z"}}) {
		t.Fatalf("in turns: %v", list)
	}
}
