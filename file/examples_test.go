package file_test

import (
	"slices"
	"testing"

	"cairn/api"
	"cairn/file"
)

// oar is the file of the chapter's examples: six bytes, 1 to 6; it is the operation 1 of client 7.
var oar = fileOf(me, 1)

// withOar is a hall with that file, and its user.
func withOar(t testing.TB) *seat {
	t.Helper()
	s := fresh(t)
	s.run(t, create("oar"))
	s.run(t, writeAt("oar", 0, 1, 2, 3, 4, 5, 6))
	if r := s.run(t, lookup("oar")); r.Entry != entry("oar", oar, 6) {
		t.Fatalf("%+v", r)
	}
	return s
}

// modelWithOar is a Model with it; the numbers up to 9 are used.
func modelWithOar(t testing.TB) *file.Model {
	t.Helper()
	m := model(t, small())
	m.Do(me, 1, create("oar"))
	m.Do(me, 2, writeAt("oar", 0, 1, 2, 3, 4, 5, 6))
	return m
}

func entryOf(size int) api.Result { return api.Result{Entry: entry("oar", oar, size)} }

func withData(r api.Result, data ...byte) api.Result {
	r.Data = data
	return r
}

func withN(r api.Result, n int) api.Result {
	r.N = n
	return r
}

// example is an operation on the file as it is at first, with its parts and its result.
type example struct {
	promise string
	o       api.Op
	want    api.Result
	parts   []api.Op
}

func examples() []example {
	look := lookup("oar")
	return []example{
		{"1", readAt("oar", 3, 10), withData(entryOf(6), 4, 5, 6), []api.Op{look, read(oar, 0), read(oar, 1)}},
		{"1", readAt("oar", 6, 1), entryOf(6), []api.Op{look}},
		{"1", readAt("oar", 0, 0), entryOf(6), []api.Op{look}},
		{"2", writeAt("oar", 5, 9, 9, 9, 9), withN(entryOf(9), 4), []api.Op{look, read(oar, 1), write(oar, 1, 5, 9, 9, 9), read(oar, 2), write(oar, 2, 9, 0, 0, 0), grow("oar", oar, 9)}},
		{"2", writeAt("oar", 4, 7, 7, 7, 7), withN(entryOf(8), 4), []api.Op{look, write(oar, 1, 7, 7, 7, 7), grow("oar", oar, 8)}},
		{"3", truncate("oar", 3), entryOf(3), []api.Op{look, write(oar, 1, 0, 0, 0, 0), read(oar, 0), write(oar, 0, 1, 2, 3, 0), setSize("oar", oar, 3)}},
		{"3, to the same", truncate("oar", 6), entryOf(6), []api.Op{look}},
		{"3, to more", truncate("oar", 20), entryOf(20), []api.Op{look, setSize("oar", oar, 20)}},
		{"5", writeAt("none", 0, 1), api.Result{Err: api.ErrNotFound}, []api.Op{lookup("none")}},
	}
}

func TestP1504Examples(t *testing.T) {
	for _, x := range examples() {
		t.Run(x.promise, func(t *testing.T) {
			mustRun(t, withOar(t), x.o, x.want, x.parts...)
			if r := modelWithOar(t).Do(me, 10, x.o); !sameResult(r, x.want) {
				t.Errorf("the Model: %+v, not %+v", r, x.want)
			}
			if x.want.Err == api.OK {
				if n := file.Parts(x.o, entry("oar", oar, 6), 4); n != len(x.parts)-1 {
					t.Errorf("Parts: %d, not %d", n, len(x.parts)-1)
				}
			}
		})
	}
}

// Example 3 goes on with the file that it has made shorter.
func TestP1504Example3GoesOn(t *testing.T) {
	s := withOar(t)
	s.run(t, truncate("oar", 3))
	mustRun(t, s, truncate("oar", 3), entryOf(3), lookup("oar"))
	mustRun(t, s, truncate("oar", 20), entryOf(20), lookup("oar"), setSize("oar", oar, 20))
	zeros := make([]byte, 17)
	mustRun(t, s, readAt("oar", 0, 99), withData(entryOf(20), append([]byte{1, 2, 3}, zeros...)...),
		lookup("oar"), read(oar, 0), read(oar, 1), read(oar, 2), read(oar, 3), read(oar, 4))
}

func TestP1504Example4(t *testing.T) {
	s := withOar(t)
	peg := fileOf(me, s.client.Number()+2)
	mustRun(t, s, copyTo("oar", "peg"), api.Result{Entry: entry("peg", peg, 6)},
		lookup("oar"), create("peg"), read(oar, 0), write(peg, 0, 1, 2, 3, 4), read(oar, 1), write(peg, 1, 5, 6, 0, 0), grow("peg", peg, 6))
	mustRun(t, s, readAt("peg", 0, 6), api.Result{Entry: entry("peg", peg, 6), Data: []byte{1, 2, 3, 4, 5, 6}}, lookup("peg"), read(peg, 0), read(peg, 1))
	if n := file.Parts(copyTo("oar", "peg"), entry("oar", oar, 6), 4); n != 6 {
		t.Errorf("Parts: %d", n)
	}
	m := modelWithOar(t)
	if r := m.Do(me, 10, copyTo("oar", "peg")); !sameResult(r, api.Result{Entry: entry("peg", fileOf(me, 11), 6)}) {
		t.Errorf("the Model: %+v", r)
	}
	if r := m.Do(me, 17, readAt("peg", 0, 6)); !slices.Equal(r.Data, []byte{1, 2, 3, 4, 5, 6}) {
		t.Errorf("the Model: %+v", r)
	}
}

// The lines of one of each: what was learned stands ahead of the return that it led to.
func TestP1509Examples(t *testing.T) {
	s := fresh(t)
	at := func(o api.Op, instance int) api.Key {
		return api.Key{Kind: api.KInstance, A: bucketOf(small(), o), B: instance}
	}
	mine := api.Result{Entry: entry("oar", oar, 0), Instance: 1}
	s.run(t, create("oar"))
	mustLines(t, s.lines,
		api.Line{Kind: api.HInvoke, Client: me, Number: 1, Op: create("oar")},
		api.Line{Kind: api.HLearn, Key: at(create("oar"), 1), Command: api.Command{Kind: api.CCreate, Client: me, Op: 1, Name: "oar"}},
		api.Line{Kind: api.HReturn, Client: me, Number: 1, Result: mine})
	s.lines = nil
	s.run(t, write(oar, 0, 1, 2, 3, 4))
	mustLines(t, s.lines,
		api.Line{Kind: api.HInvoke, Client: me, Number: 2, Op: write(oar, 0, 1, 2, 3, 4)},
		api.Line{Kind: api.HReturn, Client: me, Number: 2, Result: api.Result{Stamp: api.Stamp{N: 1, Client: me}}})
	s.lines = nil
	s.run(t, writeAt("oar", 3, 9))
	grown := api.Result{Entry: entry("oar", oar, 4), Instance: 3}
	mustLines(t, s.lines,
		api.Line{Kind: api.HBegin, Client: me, Op: writeAt("oar", 3, 9)},
		api.Line{Kind: api.HInvoke, Client: me, Number: 3, Op: lookup("oar")},
		api.Line{Kind: api.HLearn, Key: at(create("oar"), 2), Command: api.Command{Kind: api.CLookup, Client: me, Op: 3, Name: "oar"}},
		api.Line{Kind: api.HReturn, Client: me, Number: 3, Result: api.Result{Entry: entry("oar", oar, 0), Instance: 2}},
		api.Line{Kind: api.HInvoke, Client: me, Number: 4, Op: read(oar, 0)},
		api.Line{Kind: api.HReturn, Client: me, Number: 4, Result: api.Result{Data: []byte{1, 2, 3, 4}, Stamp: api.Stamp{N: 1, Client: me}}},
		api.Line{Kind: api.HInvoke, Client: me, Number: 5, Op: write(oar, 0, 1, 2, 3, 9)},
		api.Line{Kind: api.HReturn, Client: me, Number: 5, Result: api.Result{Stamp: api.Stamp{N: 2, Client: me}}},
		api.Line{Kind: api.HInvoke, Client: me, Number: 6, Op: grow("oar", oar, 4)},
		api.Line{Kind: api.HLearn, Key: at(create("oar"), 3), Command: api.Command{Kind: api.CGrow, Client: me, Op: 6, Name: "oar", File: oar, Size: 4}},
		api.Line{Kind: api.HReturn, Client: me, Number: 6, Result: grown},
		api.Line{Kind: api.HEnd, Client: me, Result: api.Result{Entry: entry("oar", oar, 4), N: 1}})
}
