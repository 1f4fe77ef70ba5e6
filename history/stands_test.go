package history_test

import (
	"math"
	"slices"
	"testing"

	"cairn/api"
)

// together invokes operations of clients from 1 on, and then has all return, so that real time sets none of them ahead.
func together(ops []api.Op, results []api.Result) []api.Line {
	var l []api.Line
	for i, o := range ops {
		l = append(l, invoke(i+1, 1, o))
	}
	for i, r := range results {
		l = append(l, returns(i+1, 1, r))
	}
	return l
}

// Of a block: by the stamp, of one stamp the OWrite first, then the OReads by their places.
func TestP1803OrderOfABlock(t *testing.T) {
	w, r := write(5), read()
	for _, c := range []struct {
		ops     []api.Op
		results []api.Result
		order   []int
	}{
		{[]api.Op{w, w, w}, []api.Result{wrote(3, 1), wrote(2, 2), wrote(1, 3)}, []int{2, 1, 0}},
		{[]api.Op{w, w, w}, []api.Result{wrote(1, 3), wrote(1, 2), wrote(1, 1)}, []int{2, 1, 0}},
		{[]api.Op{w, w, w}, []api.Result{wrote(2, 1), wrote(1, 9), wrote(1, 2)}, []int{2, 1, 0}},
		{[]api.Op{r, r, w}, []api.Result{got(5, 1, 3), got(5, 1, 3), wrote(1, 3)}, []int{2, 0, 1}},
		{[]api.Op{r, w, r, r}, []api.Result{got(5, 1, 2), wrote(1, 2), got(0, 0, 0), got(5, 1, 2)}, []int{2, 1, 0, 3}},
		{[]api.Op{w, r, w, r}, []api.Result{wrote(2, 1), got(5, 2, 1), wrote(1, 3), got(5, 1, 3)}, []int{2, 3, 0, 1}},
		{[]api.Op{r, r}, []api.Result{got(0, 0, 0), got(9, 0, 0)}, []int{0, 1}},
		// Stamps need not be such as writes have: {0, 0} alone is that of zeros.
		{[]api.Op{r, w, w}, []api.Result{got(0, 0, 0), wrote(-1, 2), wrote(0, -7)}, []int{1, 2, 0}},
		{[]api.Op{r, w, r}, []api.Result{got(0, 0, 0), wrote(0, 1), got(5, 0, 1)}, []int{0, 1, 2}},
		{[]api.Op{w, r, w}, []api.Result{wrote(math.MaxInt, math.MaxInt), got(0, 0, 0), wrote(math.MinInt, math.MinInt)}, []int{2, 1, 0}},
		{[]api.Op{w, w}, []api.Result{wrote(1, 256), wrote(1, 7)}, []int{1, 0}},
	} {
		mustTell(t, small(), together(c.ops, c.results), c.order...)
	}
}

// Each block has an order of its own.
func TestP1803OrdersOfBlocks(t *testing.T) {
	for _, f := range []struct {
		file  api.File
		index int
	}{{theFile(), 1}, {api.File{Client: 1, Op: 2}, 0}, {api.File{Client: 2, Op: 1}, 0}, {theFile(), api.MaxIndex - 1}} {
		ops := []api.Op{write(5), writeOf(f.file, f.index, 6), read(), readOf(f.file, f.index)}
		mustTell(t, small(), together(ops, []api.Result{wrote(1, 1), wrote(1, 1), got(5, 1, 1), got(6, 1, 1)}), 0, 1, 2, 3)
		mustTell(t, small(), together(ops, []api.Result{wrote(2, 1), wrote(1, 1), got(0, 0, 0), got(0, 0, 0)}), 2, 0, 3, 1)
		mustTellNone(t, small(), together(ops, []api.Result{wrote(1, 1), wrote(2, 1), got(5, 2, 1), got(6, 2, 1)}))
	}
}

func TestP1803BlocksThatDoNotStand(t *testing.T) {
	w, r := write(5), read()
	failed := api.Result{Err: api.ErrIndex, Stamp: stamp(3, 3)}
	for _, c := range []struct {
		ops     []api.Op
		results []api.Result
	}{
		// Two OWrites of one stamp.
		{[]api.Op{w, w}, []api.Result{wrote(1, 1), wrote(1, 1)}},
		{[]api.Op{w, w, w}, []api.Result{wrote(1, 1), wrote(2, 1), wrote(1, 1)}},
		{[]api.Op{w, r, w}, []api.Result{wrote(1, 1), got(5, 1, 1), wrote(1, 1)}},
		// One of the stamp of zeros.
		{[]api.Op{w}, []api.Result{wrote(0, 0)}},
		{[]api.Op{w, r}, []api.Result{wrote(0, 0), got(0, 0, 0)}},
		{[]api.Op{w, w}, []api.Result{wrote(-1, 1), wrote(0, 0)}},
		// A stamp of nobody.
		{[]api.Op{r}, []api.Result{got(5, 1, 1)}},
		{[]api.Op{r}, []api.Result{got(5, 0, 1)}},
		{[]api.Op{r}, []api.Result{got(5, 1, 0)}},
		{[]api.Op{w, r}, []api.Result{wrote(1, 1), got(5, 1, 2)}},
		{[]api.Op{w, r}, []api.Result{wrote(1, 1), got(5, 2, 1)}},
		{[]api.Op{w, r}, []api.Result{wrote(3, 1), got(5, 2, 1)}},
		{[]api.Op{w, r, r}, []api.Result{wrote(3, 1), got(5, 3, 1), got(5, 2, 1)}},
		{[]api.Op{r, r}, []api.Result{got(5, 1, 1), got(5, 1, 1)}},
		// A complete one whose Err is not OK.
		{[]api.Op{w}, []api.Result{failed}},
		{[]api.Op{r}, []api.Result{{Err: api.ErrNotFound}}},
		{[]api.Op{r}, []api.Result{{Err: -1}}},
		{[]api.Op{w, w}, []api.Result{wrote(1, 1), failed}},
		{[]api.Op{w, r}, []api.Result{wrote(1, 1), {Err: api.ErrFallen, Data: []byte{5}, Stamp: stamp(1, 1)}}},
	} {
		mustTellNone(t, small(), together(c.ops, c.results))
		// One order that does not stand is enough.
		other := readOf(api.File{Client: 9, Op: 9}, 9)
		mustTellNone(t, small(), together(append(slices.Clone(c.ops), other), append(slices.Clone(c.results), got(0, 0, 0))))
		mustTellNone(t, small(), together(append([]api.Op{create("a")}, c.ops...), append([]api.Result{at(1)}, c.results...)))
	}
	// An open one may have an Err that is not OK: it is ErrWorn.
	mustTell(t, small(), together([]api.Op{w, r}, []api.Result{worn(), worn()}))
}

// An open OWrite stands in its block's order by the stamp that was told.
func TestP1803OpenWritesStand(t *testing.T) {
	w := write(5)
	l := []api.Line{invoke(1, 1, w), invoke(2, 1, w), invoke(3, 1, read()), returns(3, 1, got(5, 2, 1)), returns(2, 1, wrote(3, 2))}
	mustTell(t, small(), l, 0, 2, 1)
	l[4] = returns(2, 1, wrote(1, 2))
	mustTell(t, small(), l, 1, 0, 2)
	l[4] = returns(2, 1, wrote(2, 2))
	mustTell(t, small(), l, 0, 2, 1)
}

// Of a bucket: by the instance, whatever the kind and the name.
func TestP1803OrderOfABucket(t *testing.T) {
	a, b := inBucket(small(), 0, 0), inBucket(small(), 0, 1)
	ops := []api.Op{create(a), remove(b), lookup(a), list(0), setSize(b, theFile(), 0), grow(a, theFile(), 0), replace(b, theFile(), theFile(), 0)}
	for _, numbers := range [][]int{{1, 2, 3, 4, 5, 6, 7}, {7, 6, 5, 4, 3, 2, 1}, {1, 3, 5, 7, 6, 4, 2}, {9, 1, 1000, 2, api.MaxInstance, 3, 8}} {
		var results []api.Result
		for _, n := range numbers {
			results = append(results, at(n))
		}
		sorted := slices.Sorted(slices.Values(numbers))
		var order []int
		for _, n := range sorted {
			order = append(order, slices.Index(numbers, n))
		}
		mustTell(t, small(), together(ops, results), order...)
		// What they are answered, and what else they are told, changes nothing.
		for i := range results {
			results[i].Err, results[i].Stamp = []api.Errno{api.OK, api.ErrExists, api.ErrStale}[i%3], stamp(-i, i)
		}
		mustTell(t, small(), together(ops, results), order...)
	}
}

// Each bucket has an order of its own.
func TestP1803OrdersOfBuckets(t *testing.T) {
	a, b := inBucket(small(), 0, 0), inBucket(small(), 1, 0)
	ops := []api.Op{create(a), create(b), list(1), list(0)}
	mustTell(t, small(), together(ops, []api.Result{at(2), at(1), at(2), at(1)}), 1, 2, 3, 0)
	mustTell(t, small(), together(ops, []api.Result{at(1), at(1), at(2), at(2)}), 0, 1, 2, 3)
	mustTellNone(t, small(), together(ops, []api.Result{at(1), at(1), at(1), at(2)}))
	mustTellNone(t, small(), together(ops, []api.Result{at(1), at(1), at(2), at(1)}))
	// With one bucket they are all in it.
	mustTellNone(t, least(), together([]api.Op{create(a), create(b)}, []api.Result{at(1), at(1)}))
}

func TestP1803BucketsThatDoNotStand(t *testing.T) {
	name := inBucket(small(), 1, 0)
	for _, n := range []int{0, -1, api.MaxInstance + 1, math.MaxInt, math.MinInt} {
		mustTellNone(t, small(), one(1, 1, create(name), at(n)))
		mustTellNone(t, small(), together([]api.Op{create(name), list(1), list(0)}, []api.Result{at(1), at(n), at(1)}))
		mustTellNone(t, small(), one(1, 1, create(name), api.Result{Err: api.ErrRoom, Instance: n}))
	}
	for _, n := range []int{1, 2, 3, api.MaxInstance} {
		mustTell(t, small(), one(1, 1, create(name), at(n)), 0)
		mustTellNone(t, small(), together([]api.Op{create(name), remove(name)}, []api.Result{at(n), at(n)}))
		mustTellNone(t, small(), together([]api.Op{lookup(name), create(name), list(1)}, []api.Result{at(n), at(4), at(n)}))
	}
	// One of them open, by what was learned.
	l := []api.Line{invoke(1, 1, create(name)), invoke(2, 1, create(name)), learn(1, 3, commandOf(1, 1, create(name))), returns(2, 1, at(3))}
	mustTellNone(t, small(), l)
	l[3] = returns(2, 1, at(2))
	mustTell(t, small(), l, 1, 0)
}
