package history_test

import (
	"slices"
	"testing"

	"cairn/api"
)

// An open OWrite took place if a read tells of it.
func TestP1802OpenWrites(t *testing.T) {
	w, r := invoke(1, 1, write(5)), invoke(2, 1, read())
	sees := func(n, client int) api.Line { return returns(2, 1, got(5, n, client)) }
	// Nobody has seen it.
	mustTell(t, small(), []api.Line{w})
	mustTell(t, small(), []api.Line{w, r})
	mustTell(t, small(), []api.Line{w, r, returns(2, 1, worn())})
	mustTell(t, small(), []api.Line{w, r, returns(2, 1, got(0, 0, 0))}, 1)
	mustTell(t, small(), []api.Line{w, returns(1, 1, worn()), r, returns(2, 1, got(0, 0, 0))}, 2)
	// A read has, wherever it was invoked.
	mustTell(t, small(), []api.Line{w, r, sees(1, 1)}, 0, 1)
	mustTell(t, small(), []api.Line{r, w, sees(1, 1)}, 1, 0)
	mustTell(t, small(), []api.Line{w, returns(1, 1, worn()), r, sees(9, 1)}, 0, 2)
	mustTell(t, small(), []api.Line{r, w, returns(1, 1, worn()), sees(9, 1)}, 1, 0)
	mustTell(t, small(), []api.Line{r, w, sees(1, 1), returns(1, 1, worn())}, 1, 0)
	// One's own read behind ErrWorn.
	mustTell(t, small(), []api.Line{w, returns(1, 1, worn()), invoke(1, 2, read()), returns(1, 2, got(5, 1, 1))}, 0, 2)
	// The Client of the stamp is not the write's; it is invoked behind the return; the read is open, too, whatever stamp it tells.
	mustTellNone(t, small(), []api.Line{w, r, sees(1, 2)})
	mustTellNone(t, small(), []api.Line{w, r, sees(1, 3)})
	mustTellNone(t, small(), []api.Line{r, sees(1, 1), w})
	mustTell(t, small(), []api.Line{w, r, returns(2, 1, api.Result{Err: api.ErrWorn, Stamp: stamp(1, 1)})})
	// Of a return with ErrWorn the stamp counts for nothing.
	mustTell(t, small(), []api.Line{w, returns(1, 1, api.Result{Err: api.ErrWorn, Stamp: stamp(7, 1)}), r, sees(3, 1)}, 0, 2)
	mustTell(t, small(), []api.Line{w, returns(1, 1, api.Result{Err: api.ErrWorn, Stamp: stamp(7, 1)})})
}

// Another block's read tells nothing of it.
func TestP1802OpenWritesOfOtherBlocks(t *testing.T) {
	other := api.File{Client: 1, Op: 2}
	for _, o := range []api.Op{writeOf(other, 0, 5), writeOf(theFile(), 1, 5), writeOf(api.File{Client: 2, Op: 1}, 0, 5)} {
		mustTellNone(t, small(), []api.Line{invoke(1, 1, o), invoke(2, 1, read()), returns(2, 1, got(5, 1, 1))})
		// Nor does a complete OWrite there keep the stamp from it.
		mustTell(t, small(), []api.Line{
			invoke(1, 1, o), returns(1, 1, wrote(1, 1)), invoke(1, 2, write(6)), invoke(2, 1, read()), returns(2, 1, got(6, 1, 1)),
		}, 0, 2, 3)
		// Nor is an open one there the last of this block.
		mustTell(t, small(), []api.Line{
			invoke(1, 1, write(6)), returns(1, 1, worn()), invoke(1, 2, o), invoke(2, 1, read()), returns(2, 1, got(6, 1, 1)),
		}, 0, 3)
	}
}

// A stamp that a complete OWrite of the block tells is that one's, wherever it stands.
func TestP1802StampsOfCompleteWrites(t *testing.T) {
	// Client 1's first write is open, its second has the stamp.
	mustTell(t, small(), []api.Line{
		invoke(1, 1, write(5)), returns(1, 1, worn()), invoke(1, 2, write(6)), invoke(2, 1, read()), returns(2, 1, got(6, 1, 1)), returns(1, 2, wrote(1, 1)),
	}, 2, 3)
	// Its first write has it, the second is open.
	mustTell(t, small(), []api.Line{
		invoke(1, 1, write(5)), returns(1, 1, wrote(1, 1)), invoke(1, 2, write(6)), invoke(2, 1, read()), returns(2, 1, got(5, 1, 1)),
	}, 0, 3)
	// Another client's tells it, whose it is not.
	mustTell(t, small(), []api.Line{
		invoke(1, 1, write(5)), invoke(3, 1, write(6)), invoke(2, 1, read()), returns(2, 1, got(6, 1, 1)), returns(3, 1, wrote(1, 1)),
	}, 1, 2)
	// Another stamp of its client is the open one's.
	mustTell(t, small(), []api.Line{
		invoke(1, 1, write(5)), returns(1, 1, wrote(1, 1)), invoke(1, 2, write(6)), invoke(2, 1, read()), returns(2, 1, got(6, 2, 1)),
	}, 0, 2, 3)
}

// Of several open ones of one client and block the last ahead of the return counts.
func TestP1802LastOpenWrite(t *testing.T) {
	first, gone, second := invoke(1, 1, write(5)), returns(1, 1, worn()), invoke(1, 2, write(6))
	asks, sees := invoke(2, 1, read()), returns(2, 1, got(6, 1, 1))
	later := func(n int) []api.Line { return one(2, 2, read(), got(6, n, 1)) }
	mustTell(t, small(), []api.Line{first, gone, second, asks, sees}, 2, 3)
	mustTell(t, small(), []api.Line{first, gone, asks, second, sees}, 3, 2)
	mustTell(t, small(), []api.Line{asks, first, gone, second, returns(1, 2, worn()), sees}, 3, 0)
	// The second one comes behind the return.
	mustTell(t, small(), []api.Line{first, gone, asks, sees, second}, 0, 2)
	// Each has a read of its own.
	mustTell(t, small(), append([]api.Line{first, gone, asks, sees, second}, later(2)...), 0, 2, 4, 5)
	mustTellNone(t, small(), append([]api.Line{first, gone, asks, returns(2, 1, got(6, 3, 1)), second}, later(2)...))
	// One that is complete, or another client's, or a read, is not the last open one.
	mustTell(t, small(), []api.Line{first, gone, asks, second, returns(1, 2, wrote(2, 1)), sees}, 0, 2, 3)
	mustTell(t, small(), []api.Line{first, invoke(3, 1, write(7)), asks, sees}, 0, 2)
	mustTell(t, small(), []api.Line{first, gone, invoke(1, 2, read()), asks, sees}, 0, 3)
}

// A stamp that several reads tell: it is the write's ahead of any of their returns.
func TestP1802OneStampToldTwice(t *testing.T) {
	w := invoke(1, 1, write(5))
	early, late := one(2, 1, read(), got(5, 1, 1)), one(2, 2, read(), got(5, 1, 1))
	mustTell(t, small(), slices.Concat([]api.Line{w}, early, late), 0, 1, 3)
	// The first read returned ahead of the write, so that it can't have read it: there is no order, with the second one or without.
	mustTellNone(t, small(), slices.Concat(early, []api.Line{w}, late))
	mustTellNone(t, small(), slices.Concat(early, []api.Line{w}))
	// Of two open ones the elder has it by the first read, the other by the second: two of one stamp.
	gone := returns(1, 1, worn())
	mustTellNone(t, small(), slices.Concat([]api.Line{w, gone}, early, []api.Line{invoke(1, 2, write(5))}, late))
	mustTell(t, small(), slices.Concat([]api.Line{w, gone}, early, late, []api.Line{invoke(1, 2, write(5))}), 0, 2, 4)
}

// Of several stamps that an open OWrite may have the least counts; the others are nobody's then.
func TestP1802SeveralStamps(t *testing.T) {
	w := invoke(1, 1, write(5))
	for _, two := range [][2]api.Stamp{{stamp(1, 1), stamp(2, 1)}, {stamp(2, 1), stamp(1, 1)}, {stamp(-1, 1), stamp(0, 1)}} {
		x, y := got(5, two[0].N, two[0].Client), got(5, two[1].N, two[1].Client)
		mustTellNone(t, small(), []api.Line{w, invoke(2, 1, read()), invoke(3, 1, read()), returns(2, 1, x), returns(3, 1, y)})
	}
	// The greater one would be its own, the least is the elder write's: with the least there are two of one stamp.
	mustTellNone(t, small(), []api.Line{
		w, returns(1, 1, worn()), invoke(2, 1, read()), returns(2, 1, got(5, 1, 1)),
		invoke(3, 1, read()), invoke(1, 2, write(6)), returns(3, 1, got(5, 1, 1)), invoke(2, 2, read()), returns(2, 2, got(6, 2, 1)),
	})
}

// openOps are open operations of client 1, all of bucket 0, that may take place.
func openOps() []api.Op {
	name := inBucket(small(), 0, 0)
	return []api.Op{create(name), remove(name), setSize(name, theFile(), 1), grow(name, theFile(), 1), replace(name, theFile(), theFile(), 1)}
}

// An open command took place if it was learned, of its bucket, its client and its number.
func TestP1802OpenCommands(t *testing.T) {
	other := commandOf(9, 9, list(0))
	for _, o := range openOps() {
		for _, tail := range [][]api.Line{nil, {returns(1, 3, worn())}, {returns(1, 3, api.Result{Err: api.ErrWorn, Instance: 77})}} {
			open := append([]api.Line{invoke(1, 3, o)}, tail...)
			x := commandOf(1, 3, o)
			mustTell(t, small(), open)
			mustTell(t, small(), append(slices.Clone(open), learn(0, 5, x)), 0)
			mustTell(t, small(), append([]api.Line{learn(0, 5, x)}, open...), 1)
			mustTell(t, small(), append([]api.Line{learn(0, 4, other), learn(0, api.MaxInstance, x)}, open...), 2)
			// What kind of command it is, and of which name, is not looked at.
			mustTell(t, small(), append(slices.Clone(open), learn(0, 5, commandOf(1, 3, lookup("zz")))), 0)
			mustTell(t, small(), append(slices.Clone(open), learn(0, 5, commandOf(1, 3, list(0)))), 0)
			// Another bucket, another client, another number.
			mustTell(t, small(), append(slices.Clone(open), learn(1, 5, x), learn(0, 1, commandOf(2, 3, o)), learn(0, 2, commandOf(1, 2, o)), learn(0, 3, commandOf(3, 1, o))))
		}
	}
}

// Open questions never take place, nor does an open read.
func TestP1802OpenQuestions(t *testing.T) {
	name := inBucket(small(), 0, 0)
	for _, o := range []api.Op{lookup(name), list(0), read()} {
		x := commandOf(1, 1, lookup(name))
		mustTell(t, small(), []api.Line{invoke(1, 1, o), learn(0, 1, x)})
		mustTell(t, small(), []api.Line{invoke(1, 1, o), learn(0, 1, x), returns(1, 1, worn())})
		mustTell(t, small(), []api.Line{invoke(1, 1, o), returns(1, 1, api.Result{Err: api.ErrWorn, Data: []byte{0}, Instance: 1})})
	}
	// Nor does an open OWrite by what was learned.
	mustTell(t, small(), []api.Line{invoke(1, 1, write(1)), learn(0, 1, commandOf(1, 1, create(name)))})
}

// Its instance is that of the first HLearn; of a complete one it is the return's, whatever was learned.
func TestP1802Instances(t *testing.T) {
	name := inBucket(small(), 0, 0)
	x := commandOf(1, 1, create(name))
	open, second := invoke(1, 1, create(name)), one(2, 1, create(name), at(4))
	for _, c := range []struct {
		first, later int
		order        []int
	}{{3, 5, []int{0, 3}}, {5, 3, []int{3, 0}}} {
		l := append([]api.Line{open, learn(0, c.first, x), learn(0, c.later, x)}, second...)
		mustTell(t, small(), l, c.order...)
		l = append([]api.Line{open, returns(1, 1, worn()), learn(0, c.first, x), learn(0, c.later, x)}, second...)
		if c.first < 4 {
			mustTell(t, small(), l, 0, 4)
		} else {
			mustTellNone(t, small(), l) // ErrWorn came ahead of the second one
		}
		// Another bucket's line comes first.
		l = append([]api.Line{open, learn(1, 7-c.first, x), learn(0, c.first, x)}, second...)
		mustTell(t, small(), l, c.order...)
	}
	mustTell(t, small(), []api.Line{open, second[0], learn(0, 9, x), returns(1, 1, at(3)), second[1]}, 0, 1)
	mustTell(t, small(), []api.Line{open, second[0], learn(0, 3, x), returns(1, 1, at(9)), second[1]}, 1, 0)
	mustTellNone(t, small(), []api.Line{open, learn(0, 3, x), returns(1, 1, at(0))})
}

// Complete ones took place, whatever they were answered.
func TestP1802CompleteOnes(t *testing.T) {
	name := inBucket(small(), 0, 0)
	for i, o := range append(openOps(), lookup(name), list(0)) {
		for _, err := range []api.Errno{api.OK, api.ErrExists, api.ErrNotFound, api.ErrRoom, api.ErrStale, api.ErrFallen, -1, 999} {
			mustTell(t, small(), one(1, i+1, o, api.Result{Err: err, Instance: 1 + i}), 0)
		}
	}
	mustTell(t, small(), one(1, 1, read(), got(9, 0, 0)), 0)
	mustTell(t, small(), one(1, 1, write(1), wrote(1, 1)), 0)
}
