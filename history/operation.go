package history

import (
	"bytes"
	"cmp"
	"math"
	"slices"

	"cairn/api"
)

// none is a place behind all others.
const none = math.MaxInt

// operation is an HInvoke line, and what became of it.
type operation struct {
	invoked  api.Line
	place    int
	end      int        // the place of its return; none: it has none
	result   api.Result // of its return
	home     api.Key
	happened bool      // it took place
	stamp    api.Stamp // of one of a block alone
	instance int       // of one of a bucket alone
	row      *row      // the order of its home
	rank     int       // its place there
	named    bool      // the order that is looked at has it
	come     bool      // in the order that is made or looked at
}

func (o *operation) complete() bool { return o.end < none && o.result.Err != api.ErrWorn }

func (o *operation) is(kinds ...int) bool { return slices.Contains(kinds, o.invoked.Op.Kind) }

// settle finds out which operations took place, and where they stand in the order of their home.
func (t *tale) settle() {
	for _, o := range t.invoked {
		switch {
		case o.complete() && o.home.Kind == api.KBlock:
			o.happened, o.stamp = true, o.result.Stamp
		case o.complete():
			o.happened, o.instance = true, o.result.Instance
		case o.is(api.OCreate, api.ORemove, api.OSetSize, api.OGrow, api.OReplace):
			o.instance, o.happened = t.learned[lesson{o.home.A, callOf(o.invoked)}]
		}
	}
	t.settleWrites()
}

// tag is a stamp of a block.
type tag struct {
	home  api.Key
	stamp api.Stamp
}

// writer is a client, as far as it writes one block.
type writer struct {
	home   api.Key
	client int
}

// settleWrites does it of open writes: reads tell of them.
func (t *tale) settleWrites() {
	told := map[tag]struct{}{}
	for _, o := range t.returned {
		if o.complete() && o.is(api.OWrite) {
			told[tag{o.home, o.result.Stamp}] = struct{}{}
		}
	}
	last := map[writer]*operation{} // the last open write ahead of the return that is looked at
	ahead := 0
	for _, r := range t.returned {
		for ; ahead < len(t.invoked) && t.invoked[ahead].place < r.end; ahead++ {
			if o := t.invoked[ahead]; o.is(api.OWrite) && !o.complete() {
				last[writer{o.home, o.invoked.Client}] = o
			}
		}
		if !r.is(api.ORead) || r.result.Err != api.OK {
			continue
		}
		_, known := told[tag{r.home, r.result.Stamp}]
		if w, there := last[writer{r.home, r.result.Stamp.Client}]; there && !known {
			w.seen(r.result.Stamp)
		}
	}
}

// seen takes a stamp that a read tells of an open write.
func (o *operation) seen(s api.Stamp) {
	if !o.happened || compareStamps(s, o.stamp) < 0 {
		o.happened, o.stamp = true, s
	}
}

func compareStamps(a, b api.Stamp) int {
	return cmp.Or(cmp.Compare(a.N, b.N), cmp.Compare(a.Client, b.Client))
}

// sameAnswer tells whether two results are the same, their stamps and instances aside.
func sameAnswer(a, b api.Result) bool {
	return a.Err == b.Err && a.Entry == b.Entry && slices.Equal(a.List, b.List) && bytes.Equal(a.Data, b.Data) && a.N == b.N
}
