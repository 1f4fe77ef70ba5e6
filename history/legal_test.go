package history_test

import (
	"math"
	"testing"

	"cairn/api"
)

// tangle has two creates of one name, of which the second was the first, and then a read.
func tangle() []api.Line {
	refused := made("a", 2, 1, 2)
	refused.Err = api.ErrExists
	return []api.Line{
		invoke(1, 1, create("a")), invoke(2, 1, create("a")), returns(1, 1, refused), returns(2, 1, made("a", 2, 1, 1)),
		invoke(1, 2, read()), returns(1, 2, got(0, 0, 0)),
	}
}

func TestP1805Legal(t *testing.T) {
	l := tangle()
	mustTell(t, small(), l, 1, 0, 4)
	mustBeLegal(t, small(), l, 3, 1, 0, 4)
	mustBeLegal(t, small(), nil, 0)
	mustBeLegal(t, greatest(), nil, 0)
	mustBeLegal(t, small(), []api.Line{learn(0, 1, commandOf(1, 1, list(0))), begin(1, readAt("a"))}, 0)
}

func TestP1805NoHistory(t *testing.T) {
	for _, l := range [][]api.Line{{{}}, {returns(1, 1, worn())}, append(tangle(), end(1)), append([]api.Line{{Kind: 9}}, tangle()...)} {
		mustBeLegal(t, small(), l, -2)
		mustBeLegal(t, small(), l, -2, 1, 0, 4)
		mustBeLegal(t, small(), l, -2, -5, 99)
	}
}

// It is not an operation's place.
func TestP1805NoOperation(t *testing.T) {
	l := tangle()
	for _, place := range []int{-1, 2, 3, 5, 6, 7, 100, math.MaxInt, math.MinInt} {
		mustBeLegal(t, small(), l, 0, place)
		mustBeLegal(t, small(), l, 0, place, 1, 0, 4)
		mustBeLegal(t, small(), l, 1, 1, place, 0, 4)
		mustBeLegal(t, small(), l, 3, 1, 0, 4, place)
		mustBeLegal(t, small(), l, 3, 1, 0, 4, place, place)
	}
	mustBeLegal(t, small(), nil, 0, 0)
	others := []api.Line{begin(1, readAt("a")), end(1), learn(0, 1, commandOf(1, 1, list(0)))}
	for i := range others {
		mustBeLegal(t, small(), others, 0, i)
	}
}

// It stands in order earlier.
func TestP1805Twice(t *testing.T) {
	l := tangle()
	mustBeLegal(t, small(), l, 1, 1, 1)
	mustBeLegal(t, small(), l, 1, 1, 1, 0, 4)
	mustBeLegal(t, small(), l, 2, 1, 0, 0, 4)
	mustBeLegal(t, small(), l, 2, 1, 0, 1, 4)
	mustBeLegal(t, small(), l, 3, 1, 0, 4, 4)
	mustBeLegal(t, small(), l, 3, 1, 0, 4, 1)
	// An open one, too.
	open := []api.Line{invoke(1, 1, write(5))}
	mustBeLegal(t, small(), open, 1, 0)
	mustBeLegal(t, small(), open, 1, 0, 0)
}

// Two exchanged, one left out.
func TestP1805OtherOrders(t *testing.T) {
	l := tangle()
	mustBeLegal(t, small(), l, 0, 0, 1, 4) // the create is answered otherwise
	mustBeLegal(t, small(), l, 0, 4, 1, 0) // the creates returned ahead of the read
	mustBeLegal(t, small(), l, 1, 1, 4, 0)
	mustBeLegal(t, small(), l, -1)
	mustBeLegal(t, small(), l, -1, 1)
	mustBeLegal(t, small(), l, -1, 1, 0)
	mustBeLegal(t, small(), l, 1, 1, 4) // one that stands nowhere returned ahead of it
	mustBeLegal(t, small(), l, 0, 0)
	mustBeLegal(t, small(), l, 0, 0, 4)
	mustBeLegal(t, small(), l, 0, 4)
}

// Who has returned and has not come yet is looked for in all of the order; if it is complete, nowhere too.
func TestP1805RealTime(t *testing.T) {
	other := readOf(api.File{Client: 9, Op: 9}, 0)
	l := append(one(1, 1, read(), got(0, 0, 0)), one(2, 1, other, got(0, 0, 0))...)
	mustBeLegal(t, small(), l, 2, 0, 2)
	mustBeLegal(t, small(), l, 0, 2, 0)
	mustBeLegal(t, small(), l, 0, 2)
	mustBeLegal(t, small(), l, -1, 0)
	// The return with ErrWorn: it counts if it stands later, not if it stands nowhere.
	l = append(one(1, 1, read(), worn()), one(2, 1, other, got(0, 0, 0))...)
	mustBeLegal(t, small(), l, 2, 0, 2)
	mustBeLegal(t, small(), l, 0, 2, 0)
	mustBeLegal(t, small(), l, 1, 2)
	mustBeLegal(t, small(), l, 0, 2, 77, 0)
	mustBeLegal(t, small(), l, 0, 2, 2, 0)
	mustBeLegal(t, small(), l, -1, 0)
	// No return: it may come whenever.
	l = append([]api.Line{invoke(1, 1, read())}, one(2, 1, other, got(0, 0, 0))...)
	mustBeLegal(t, small(), l, 2, 0, 1)
	mustBeLegal(t, small(), l, 2, 1, 0)
	mustBeLegal(t, small(), l, 1, 1)
	// The return stands behind the invocation.
	l = []api.Line{invoke(1, 1, read()), invoke(2, 1, other), returns(1, 1, got(0, 0, 0)), returns(2, 1, got(0, 0, 0))}
	mustBeLegal(t, small(), l, 2, 0, 1)
	mustBeLegal(t, small(), l, 2, 1, 0)
	// One ahead of the last, with others between.
	l = append(append(one(1, 1, read(), got(0, 0, 0)), one(1, 2, read(), got(0, 0, 0))...), one(1, 3, read(), got(0, 0, 0))...)
	mustBeLegal(t, small(), l, 3, 0, 2, 4)
	mustBeLegal(t, small(), l, 1, 0, 4, 2)
	mustBeLegal(t, small(), l, 0, 2, 0, 4)
	mustBeLegal(t, small(), l, 0, 4)
	mustBeLegal(t, small(), l, 1, 0, 4)
}

// What the sequential store answers is what was answered, Stamp and Instance aside.
func TestP1805Answers(t *testing.T) {
	c := small()
	a := inBucket(c, 0, 0)
	entry := api.Entry{Name: a, File: api.File{Client: 1, Op: 1}}
	sized := entry
	sized.Size = 7
	replaced := api.Entry{Name: a, File: api.File{Client: 9, Op: 9}, Size: 2}
	steps := []struct {
		o api.Op
		r api.Result
	}{
		{create(a), api.Result{Entry: entry}},
		{create(a), api.Result{Err: api.ErrExists, Entry: entry}},
		{lookup(a), api.Result{Entry: entry}},
		{setSize(a, entry.File, 7), api.Result{Entry: sized}},
		{grow(a, entry.File, 3), api.Result{Entry: sized}},
		{grow(a, theFile(), 3), api.Result{Entry: sized}},
		{grow(a, api.File{Client: 2, Op: 2}, 3), api.Result{Err: api.ErrStale, Entry: sized}},
		{replace(a, entry.File, replaced.File, 2), api.Result{Entry: replaced}},
		{list(0), api.Result{List: []api.Entry{replaced}}},
		{list(1), api.Result{}},
		{remove(a), api.Result{Entry: replaced}},
		{lookup(a), api.Result{Err: api.ErrNotFound}},
		{read(), api.Result{Data: []byte{0}}},
		{write(9), api.Result{}},
		{read(), api.Result{Data: []byte{9}}},
	}
	var l []api.Line
	var order []int
	for i, s := range steps {
		order = append(order, len(l))
		l = append(l, one(1, i+1, s.o, s.r)...)
	}
	mustBeLegal(t, c, l, len(order), order...)
	for i, place := range order {
		for _, wrong := range []func(r *api.Result){
			func(r *api.Result) { r.Err = api.ErrRoom }, func(r *api.Result) { r.Entry.Name += "b" }, func(r *api.Result) { r.Entry.File.Client++ }, func(r *api.Result) { r.Entry.File.Op++ },
			func(r *api.Result) { r.Entry.Size++ }, func(r *api.Result) { r.List = append(r.List, api.Entry{}) }, func(r *api.Result) { r.Data = append(r.Data, 0) }, func(r *api.Result) { r.N++ },
		} {
			m := copied(l)
			wrong(&m[place+1].Result)
			mustBeLegal(t, c, m, i, order...)
		}
		m := copied(l)
		m[place+1].Result.Stamp, m[place+1].Result.Instance = stamp(i, 7), -i
		mustBeLegal(t, c, m, len(order), order...)
		// One that is open is done, and not looked at: the next ones are answered as they were.
		m[place+1].Result = api.Result{Err: api.ErrWorn, Data: []byte{1, 2, 3}}
		mustBeLegal(t, c, m, len(order), order...)
	}
}

// Operations are done by their Client, Number and Op.
func TestP1805WhoseItIs(t *testing.T) {
	for _, who := range [][2]int{{1, 1}, {api.MaxId, 1}, {1, api.MaxNum}, {api.MaxId, api.MaxNum}} {
		mustBeLegal(t, small(), one(who[0], who[1], create("a"), made("a", who[0], who[1], 1)), 1, 0)
		mustBeLegal(t, small(), one(who[0], who[1], create("a"), made("a", who[0]+1, who[1], 1)), 0, 0)
		mustBeLegal(t, small(), one(who[0], who[1], create("a"), made("a", who[0], who[1]+1, 1)), 0, 0)
	}
}

// What stands in no order has not taken place: Witness may leave out what Legal needs.
func TestP1805OpenOnes(t *testing.T) {
	name := inBucket(small(), 0, 0)
	l := []api.Line{invoke(1, 1, create(name)), invoke(2, 1, lookup(name)), returns(2, 1, made(name, 1, 1, 2))}
	mustTell(t, small(), l, 1)
	mustBeLegal(t, small(), l, 0, 1)
	mustBeLegal(t, small(), l, 2, 0, 1)
	l = append(l, learn(0, 1, commandOf(1, 1, create(name))))
	mustTell(t, small(), l, 0, 1)
}
