package file_test

import (
	"testing"

	"cairn/api"
)

// Another user does something between two parts: what comes behind it finds that, and a part that is refused ends the operation, with its error alone.
func TestP1504OthersBetween(t *testing.T) {
	peg := fileOf(me, 9)
	for _, x := range []struct {
		name        string
		o, ahead    api.Op   // of the operation, the part that comes next when
		other       []api.Op // these are done by another one
		want        api.Result
		behind      api.Op
		wantBehind  api.Result
		partsBehind int // behind the part at which it waits
	}{
		{"removed ahead of the Lookup", readAt("oar", 0, 9), lookup("oar"), []api.Op{remove("oar")}, api.Result{Err: api.ErrNotFound}, lookup("oar"), api.Result{Err: api.ErrNotFound}, 0},
		{"removed behind the Lookup of a read", readAt("oar", 0, 9), read(oar, 0), []api.Op{remove("oar")}, withData(entryOf(6), 1, 2, 3, 4, 5, 6), lookup("oar"), api.Result{Err: api.ErrNotFound}, 1},
		{"written between two reads", readAt("oar", 0, 9), read(oar, 1), []api.Op{writeAt("oar", 0, 8, 8, 8, 8, 8)}, withData(entryOf(6), 1, 2, 3, 4, 8, 6), readAt("oar", 0, 9), withData(entryOf(6), 8, 8, 8, 8, 8, 6), 0},
		{"grown behind the Lookup of a read", readAt("oar", 0, 20), read(oar, 0), []api.Op{truncate("oar", 20)}, withData(entryOf(6), 1, 2, 3, 4, 5, 6), lookup("oar"), entryOf(20), 1},
		{"removed ahead of the OGrow", writeAt("oar", 4, 7, 7, 7, 7), grow("oar", oar, 8), []api.Op{remove("oar")}, api.Result{Err: api.ErrNotFound}, read(oar, 1), api.Result{Data: []byte{7, 7, 7, 7}}, 0},
		{"another file ahead of the OGrow", writeAt("oar", 4, 7, 7, 7, 7), grow("oar", oar, 8), []api.Op{replace("oar", oar, fileOf(9, 9), 3)}, api.Result{Err: api.ErrStale}, lookup("oar"), api.Result{Entry: entry("oar", fileOf(9, 9), 3)}, 0},
		{"longer ahead of the OGrow", writeAt("oar", 4, 7, 7, 7, 7), grow("oar", oar, 8), []api.Op{setSize("oar", oar, 30)}, withN(entryOf(30), 4), lookup("oar"), entryOf(30), 0},
		{"shorter ahead of the OGrow", writeAt("oar", 4, 7, 7, 7, 7), grow("oar", oar, 8), []api.Op{setSize("oar", oar, 1)}, withN(entryOf(8), 4), lookup("oar"), entryOf(8), 0},
		{"another file ahead of the OSetSize", truncate("oar", 4), setSize("oar", oar, 4), []api.Op{replace("oar", oar, fileOf(9, 9), 3)}, api.Result{Err: api.ErrStale}, read(oar, 1), api.Result{Data: []byte{0, 0, 0, 0}}, 0},
		{"removed ahead of the OSetSize", truncate("oar", 20), setSize("oar", oar, 20), []api.Op{remove("oar")}, api.Result{Err: api.ErrNotFound}, lookup("oar"), api.Result{Err: api.ErrNotFound}, 0},
		{"longer behind the Lookup of a truncation", truncate("oar", 3), write(oar, 1, 0, 0, 0, 0), []api.Op{writeAt("oar", 6, 1, 2, 3)}, entryOf(3), read(oar, 2), api.Result{Data: []byte{3, 0, 0, 0}}, 3},
		{"the name of the copy is taken", copyTo("oar", "peg"), create("peg"), []api.Op{create("peg")}, api.Result{Err: api.ErrExists}, lookup("peg"), api.Result{Entry: entry("peg", fileOf(9, 1), 0)}, 0},
		{"the copy is removed", copyTo("oar", "peg"), grow("peg", peg, 6), []api.Op{remove("peg")}, api.Result{Err: api.ErrNotFound}, read(peg, 1), api.Result{Data: []byte{5, 6, 0, 0}}, 0},
		{"the copy is another file", copyTo("oar", "peg"), grow("peg", peg, 6), []api.Op{replace("peg", peg, oar, 2)}, api.Result{Err: api.ErrStale}, lookup("peg"), api.Result{Entry: entry("peg", oar, 2)}, 0},
		{"the copy is longer", copyTo("oar", "peg"), grow("peg", peg, 6), []api.Op{truncate("peg", 9)}, api.Result{Entry: entry("peg", peg, 9)}, readAt("peg", 0, 99), api.Result{Entry: entry("peg", peg, 9), Data: []byte{1, 2, 3, 4, 5, 6, 0, 0, 0}}, 0},
		{"what is copied is written", copyTo("oar", "peg"), read(oar, 1), []api.Op{writeAt("oar", 3, 9, 9)}, api.Result{Entry: entry("peg", peg, 6)}, readAt("peg", 0, 99), api.Result{Entry: entry("peg", peg, 6), Data: []byte{1, 2, 3, 4, 9, 6}}, 2},
	} {
		t.Run(x.name, func(t *testing.T) {
			s := newHall(t, small()).twins(t, me, "")
			for _, o := range []api.Op{create("oar"), writeAt("oar", 0, 1, 2, 3, 4, 5, 6), lookup("oar")} {
				s.run(t, o)
			}
			other := s.hall.seat(t, 9)
			way := s.upTo(t, x.o, x.ahead)
			for _, o := range x.other {
				if r := other.run(t, o); r.Err != api.OK {
					t.Fatalf("%+v: %+v", o, r)
				}
			}
			number := s.client.Number()
			s.goOn(way)
			for s.Pending() {
				s.goOn(s.Tick())
			}
			mustAgree(t, s)
			mustReturn(t, s, x.want)
			if s.client.Number() != number+x.partsBehind {
				t.Errorf("%d parts behind it", s.client.Number()-number)
			}
			if r := other.run(t, x.behind); !sameAnswer(r, x.wantBehind) {
				t.Errorf("%+v: %+v, not %+v", x.behind, r, x.wantBehind)
			}
		})
	}
}

// Rooms that are full: of a copy no part is left but the Lookup and the OCreate, over servers and in the Model.
func TestP1504FullRoom(t *testing.T) {
	s, m := withOar(t), modelWithOar(t)
	number := 10
	do := func(o api.Op) api.Result {
		t.Helper()
		a, b := s.run(t, o), m.Do(me, number, o)
		number += 20
		if a.Err != b.Err || a.Entry.Name != b.Entry.Name || a.Entry.Size != b.Entry.Size || len(a.List) != len(b.List) {
			t.Fatalf("%+v: %+v, but the Model %+v", o, a, b)
		}
		return a
	}
	for i := 0; ; i++ { // the bucket of "peg" is filled
		name := string(rune('a' + i))
		if bucketOf(small(), lookup(name)) != bucketOf(small(), lookup("peg")) {
			continue
		}
		if r := do(create(name)); r.Err == api.ErrRoom {
			break
		}
	}
	from := len(s.lines)
	if r := do(copyTo("oar", "peg")); !sameResult(r, api.Result{Err: api.ErrRoom}) || len(parts(s.lines[from:])) != 2 {
		t.Errorf("%+v", r)
	}
	if r := do(lookup("peg")); r.Err != api.ErrNotFound {
		t.Errorf("%+v", r)
	}
	from = len(s.lines)
	if r := do(copyTo("oar", "oar")); !sameResult(r, api.Result{Err: api.ErrExists}) || len(parts(s.lines[from:])) != 2 {
		t.Errorf("%+v", r)
	}
	for i := range small().Buckets {
		do(list(i))
	}
}

// A copy is another file: what becomes of the one is none of the other.
func TestP1504CopyIsAnother(t *testing.T) {
	s := withOar(t)
	s.run(t, copyTo("oar", "peg"))
	s.run(t, writeAt("oar", 0, 9, 9))
	s.run(t, truncate("peg", 1))
	if r := s.run(t, readAt("peg", 0, 9)); len(r.Data) != 1 || r.Data[0] != 1 {
		t.Errorf("%+v", r)
	}
	if r := s.run(t, readAt("oar", 0, 9)); len(r.Data) != 6 || r.Data[0] != 9 {
		t.Errorf("%+v", r)
	}
	s = fresh(t) // of an empty file: a name, and no more
	s.run(t, create("oar"))
	mustRun(t, s, copyTo("oar", "peg"), api.Result{Entry: entry("peg", fileOf(me, 3), 0)}, lookup("oar"), create("peg"))
}
