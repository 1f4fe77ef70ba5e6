package history_test

import (
	"testing"

	"cairn/api"
	"cairn/history"
)

func TestP1804NoHistory(t *testing.T) {
	mustTell(t, small(), nil)
	mustTell(t, small(), []api.Line{})
	mustTell(t, greatest(), []api.Line{begin(1, readAt("a")), end(1), learn(0, 1, commandOf(1, 1, list(0)))})
	for _, l := range [][]api.Line{{{}}, {returns(1, 1, got(0, 0, 0))}, append(one(1, 1, read(), got(0, 0, 0)), end(1)), append(story(), api.Line{Kind: 6})} {
		if order, ok := history.Witness(small(), l); ok || len(order) > 0 {
			t.Errorf("Witness: %v, %v, of\n%s", order, ok, words(l))
		}
	}
}

// Who returned stands ahead of who is invoked behind that, be it of another block or bucket.
func TestP1804RealTime(t *testing.T) {
	other := api.File{Client: 7, Op: 7}
	late := []api.Line{invoke(1, 1, write(5)), invoke(3, 1, readOf(other, 0)), returns(3, 1, got(0, 0, 0)), invoke(2, 1, read()), returns(2, 1, got(0, 0, 0)), returns(1, 1, wrote(1, 1))}
	// The write waits for the read of zeros, which waits for the read of the other block.
	mustTell(t, small(), late, 1, 3, 0)
	// Without real time between them, the least place comes first.
	mustTell(t, small(), []api.Line{invoke(1, 1, write(5)), invoke(3, 1, readOf(other, 0)), invoke(2, 1, read()), returns(3, 1, got(0, 0, 0)), returns(2, 1, got(0, 0, 0)), returns(1, 1, wrote(1, 1))}, 1, 2, 0)
	// Round by two blocks: each order stands, and each operation has one ahead.
	one, two := theFile(), other
	round := []api.Line{
		invoke(1, 1, writeOf(one, 0, 1)), invoke(2, 1, writeOf(two, 0, 1)), returns(1, 1, wrote(1, 1)), returns(2, 1, wrote(1, 2)),
		invoke(1, 2, readOf(two, 0)), invoke(2, 2, readOf(one, 0)), returns(1, 2, got(0, 0, 0)), returns(2, 2, got(0, 0, 0)),
	}
	mustTellNone(t, small(), round)
	round[6] = returns(1, 2, got(1, 1, 2))
	mustTellNone(t, small(), round)
	round[7] = returns(2, 2, got(1, 1, 1))
	mustTell(t, small(), round, 0, 1, 4, 5)
}

// A return counts from its line on: who is invoked ahead of that line is not behind.
func TestP1804Overlapping(t *testing.T) {
	w, r := invoke(1, 1, write(5)), invoke(2, 1, read())
	done, zeros := returns(1, 1, wrote(1, 1)), returns(2, 1, got(0, 0, 0))
	mustTell(t, small(), []api.Line{w, r, done, zeros}, 1, 0)
	mustTell(t, small(), []api.Line{r, w, done, zeros}, 0, 1)
	mustTell(t, small(), []api.Line{r, zeros, w, done}, 0, 2)
	mustTellNone(t, small(), []api.Line{w, done, r, zeros})
	five := returns(2, 1, got(5, 1, 1))
	mustTell(t, small(), []api.Line{w, r, done, five}, 0, 1)
	mustTell(t, small(), []api.Line{r, w, five, done}, 1, 0)
	mustTellNone(t, small(), []api.Line{r, five, w, done})
}

// A return with ErrWorn stands in time as any other.
func TestP1804ReturnsWithErrWorn(t *testing.T) {
	name := inBucket(small(), 0, 0)
	x := commandOf(1, 1, create(name))
	first := []api.Line{invoke(1, 1, create(name)), returns(1, 1, worn())}
	second := one(2, 1, create(name), at(1))
	mustTellNone(t, small(), append(append(first, second...), learn(0, 2, x)))
	mustTell(t, small(), []api.Line{first[0], second[0], first[1], second[1], learn(0, 2, x)}, 1, 0)
	mustTell(t, small(), []api.Line{first[0], second[0], second[1], learn(0, 2, x)}, 1, 0)
	// One that did not take place holds nobody up.
	mustTell(t, small(), append(append([]api.Line{}, first...), second...), 2)
	// Of a block.
	w := invoke(1, 1, write(5))
	mustTellNone(t, small(), []api.Line{w, returns(1, 1, worn()), invoke(2, 1, read()), returns(2, 1, got(0, 0, 0)), invoke(2, 2, read()), returns(2, 2, got(5, 1, 1))})
	mustTell(t, small(), []api.Line{w, invoke(2, 1, read()), returns(1, 1, worn()), returns(2, 1, got(0, 0, 0)), invoke(2, 2, read()), returns(2, 2, got(5, 1, 1))}, 1, 0, 4)
	mustTell(t, small(), []api.Line{w, invoke(2, 1, read()), returns(2, 1, got(0, 0, 0)), invoke(2, 2, read()), returns(2, 2, got(5, 1, 1))}, 1, 0, 3)
}

// Among those that have none ahead the one with the least place comes, again and again.
func TestP1804LeastPlace(t *testing.T) {
	f := func(n int) api.File { return api.File{Client: 1, Op: n} }
	var l []api.Line
	for i := range 9 {
		l = append(l, invoke(9-i, 1, writeOf(f(i%3+1), 0, 1)))
	}
	for i := range 9 { // in each of the three blocks the last one is the first
		l = append(l, returns(9-i, 1, wrote(9-i, 1)))
	}
	mustTell(t, small(), l, 6, 3, 0, 7, 4, 1, 8, 5, 2)
}

// An order of a bucket, of a block and of time together: each alone stands.
func TestP1804EachHasOneAhead(t *testing.T) {
	name := inBucket(small(), 0, 0)
	l := []api.Line{
		invoke(1, 1, create(name)), invoke(2, 1, write(5)), returns(1, 1, at(2)), returns(2, 1, wrote(1, 2)),
		invoke(1, 2, read()), invoke(2, 2, lookup(name)), returns(1, 2, got(0, 0, 0)), returns(2, 2, at(1)),
	}
	mustTellNone(t, small(), l)
	l[6] = returns(1, 2, got(5, 1, 2))
	mustTellNone(t, small(), l)
	l[7] = returns(2, 2, at(3))
	mustTell(t, small(), l, 0, 1, 4, 5)
	// What stands ahead of the knot is told no more than the rest.
	mustTellNone(t, small(), []api.Line{
		invoke(3, 1, list(1)), returns(3, 1, at(1)),
		invoke(1, 1, write(5)), returns(1, 1, wrote(1, 1)), invoke(2, 1, read()), returns(2, 1, got(0, 0, 0)),
	})
}

// HBegin and HEnd set nothing ahead.
func TestP1804Composites(t *testing.T) {
	mustTell(t, small(), []api.Line{
		begin(1, readAt("a")), invoke(1, 1, write(5)), begin(2, readAt("a")), invoke(2, 1, read()), returns(2, 1, got(0, 0, 0)), end(2),
		returns(1, 1, wrote(1, 1)), end(1), invoke(3, 1, read()), returns(3, 1, got(5, 1, 1)),
	}, 3, 1, 8)
}
