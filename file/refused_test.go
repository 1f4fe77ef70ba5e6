package file_test

import (
	"math"
	"strings"
	"testing"

	"cairn/api"
	"cairn/file"
)

// mustRefuse: it is refused at once, and nothing has changed.
func mustRefuse(t testing.TB, s *seat, o api.Op, want api.Errno) {
	t.Helper()
	was, lines, number := told(s), len(s.lines), s.client.Number()
	if got, err := s.Invoke(o); err != want || len(got) > 0 {
		t.Fatalf("%+v: %v, %v, not %v", o, got, err, want)
	}
	if told(s) != was || len(s.lines) != lines || s.client.Number() != number {
		t.Fatalf("%+v: it tells of itself\n%s, not\n%s; the number %d behind %d; lines %+v", o, told(s), was, s.client.Number(), number, s.lines[lines:])
	}
}

// mustMay: a user and a Model take it. (Each Model is a new one: what is there is none of the question.)
func mustMay(t testing.TB, c api.Config, o api.Op) {
	t.Helper()
	u := file.New(made(t, c, me), nil)
	if list, err := u.Invoke(o); err != api.OK || len(list) == 0 || !u.Pending() {
		t.Fatalf("%+v: %v, %v", o, list, err)
	}
	switch r := model(t, c).Do(me, 1, o); r.Err {
	case api.OK, api.ErrNotFound, api.ErrRoom, api.ErrExists, api.ErrStale:
	default:
		t.Fatalf("the Model: %+v: %v", o, r.Err)
	}
}

// mustNotMay: a user and a Model refuse it.
func mustNotMay(t testing.TB, s *seat, o api.Op, want api.Errno) {
	t.Helper()
	mustRefuse(t, s, o, want)
	if r := model(t, s.c).Do(me, 1, o); !sameResult(r, api.Result{Err: want}) {
		t.Fatalf("the Model: %+v: %+v, not %v", o, r, want)
	}
}

func alone(t testing.TB, c api.Config) *seat {
	t.Helper()
	return newHall(t, c).seat(t, me)
}

func TestP1502Kinds(t *testing.T) {
	s := fresh(t)
	full := api.Op{Name: "oar", Other: "peg", File: fileOf(5, 1), New: fileOf(5, 2), At: 1, N: 1, Data: []byte{1, 2, 3, 4}}
	for kind := -20; kind <= 300; kind++ {
		if kind >= api.OCreate && kind <= api.OCopy {
			continue
		}
		for _, o := range append(append(atomics(small()), composites()...), full, api.Op{}) {
			o.Kind = kind
			mustNotMay(t, s, o, api.ErrOp)
		}
	}
	for _, kind := range []int{math.MinInt, math.MaxInt, 1 << 32, 1<<32 + 10, -1 << 32} {
		mustNotMay(t, s, api.Op{Kind: kind, Name: "oar"}, api.ErrOp)
	}
	for _, o := range append(atomics(small()), composites()...) {
		mustMay(t, small(), o)
	}
}

// Field by field: what a kind does not name must be zero, whatever else may be wrong.
func TestP1502NotNamed(t *testing.T) {
	s := fresh(t)
	tried := 0
	for _, right := range append(atomics(small()), composites()...) {
		for _, p := range puts() {
			if isNamed(right.Kind, p.field) {
				continue
			}
			tried++
			o := right
			p.on(&o)
			mustNotMay(t, s, o, api.ErrOp)
			bare := api.Op{Kind: right.Kind} // all that it names is wrong, if it may be
			p.on(&bare)
			mustNotMay(t, s, bare, api.ErrOp)
		}
	}
	if tried < 150 {
		t.Errorf("only %d", tried)
	}
}

// No list and an empty one are the same.
func TestP1502EmptyLists(t *testing.T) {
	for _, o := range append(atomics(small()), composites()...) {
		if o.Kind == api.OWrite {
			continue
		}
		for _, none := range [][]byte{nil, {}, make([]byte, 0, 8), []byte("8 bytes.")[:0]} {
			o.Data = none
			mustMay(t, small(), o)
		}
	}
}

func TestP1502Names(t *testing.T) {
	long := strings.Repeat("n", api.MaxName)
	right := []string{"a", "oar", long, "\x01", "\xff\xfe", "é", ".", "..", " ", "a\nb", strings.Repeat("\xff", api.MaxName)}
	wrong := []string{"", "/", "\x00", "a/b", "/a", "a/", "a\x00b", "\x00a", "a\x00", long + "n", strings.Repeat("n", 1000), long[:254] + "/", long[:254] + "\x00", strings.Repeat("/", 300)}
	for b := range 256 {
		if name := "x" + string([]byte{byte(b)}) + "y"; b == 0 || b == '/' {
			wrong = append(wrong, name)
		} else {
			right = append(right, name)
		}
	}
	s := fresh(t)
	for _, o := range append(atomics(small())[:3], composites()...) {
		if o.Kind == api.OCopy {
			for _, o.Other = range right {
				mustMay(t, small(), o)
			}
			for _, o.Other = range wrong {
				mustNotMay(t, s, o, api.ErrName)
			}
			o.Other = "peg"
		}
		for _, o.Name = range right {
			mustMay(t, small(), o)
		}
		for _, o.Name = range wrong {
			mustNotMay(t, s, o, api.ErrName)
		}
	}
	mustMay(t, small(), copyTo("oar", "oar"))
}

// At, N and the length of Data: up to the greatest size together, and not below 0; sums that wrap are above it.
func TestP1502Sizes(t *testing.T) {
	for _, c := range []api.Config{small(), least(), greatest()} {
		s := alone(t, c)
		most := 1 << 20 * c.Block
		places := []int{0, 1, c.Block - 1, c.Block, c.Block + 1, most / 2, most/2 + 1, most - c.Block, most - 2, most - 1, most}
		beyond := []int{most + 1, most + 2, 2 * most, 1 << 40, math.MaxInt - most, math.MaxInt - 1, math.MaxInt}
		below := []int{-1, -2, -most, math.MinInt, math.MinInt + 1}
		all := append(append(append([]int{}, places...), beyond...), below...)
		for _, at := range all {
			for _, n := range all {
				if o := readAt("oar", at, n); at >= 0 && n >= 0 && at <= most && n <= most-at {
					mustMay(t, c, o)
				} else {
					mustNotMay(t, s, o, api.ErrSize)
				}
			}
			if o := truncate("oar", at); at >= 0 && at <= most {
				mustMay(t, c, o)
			} else {
				mustNotMay(t, s, o, api.ErrSize)
			}
			for _, n := range []int{0, 1, 2, c.Block, c.Block + 1, 3 * c.Block} {
				if o := writeAt("oar", at, make([]byte, n)...); at >= 0 && at <= most-n {
					mustMay(t, c, o)
				} else {
					mustNotMay(t, s, o, api.ErrSize)
				}
			}
		}
		whole := make([]byte, min(most, 1<<22))
		if len(whole) == most {
			mustMay(t, c, writeAt("oar", 0, whole...))
			mustNotMay(t, s, writeAt("oar", 1, whole...), api.ErrSize)
			mustNotMay(t, s, writeAt("oar", 0, append(whole, 0)...), api.ErrSize)
		}
	}
}

// Each pair of faults: the first in the order of the promise is answered.
func TestP1502Order(t *testing.T) {
	most := 1 << 20 * small().Block
	busy, down, idle, worn := fresh(t), fresh(t), fresh(t), fresh(t)
	busy.Invoke(writeAt("oar", 0, 1))
	down.Invoke(writeAt("oar", 0, 1))
	down.Stop()
	idle.Stop()
	poke(worn.client, "number", api.MaxNum)
	s := fresh(t)
	for _, x := range []struct {
		o         api.Op
		want, run api.Errno // of an idle client; of one whose numbers are used up
	}{
		{api.Op{}, api.ErrOp, api.ErrOp},
		{api.Op{Kind: 14, Name: "a/b"}, api.ErrOp, api.ErrOp},
		{readAt("a/b", -1, -1), api.ErrName, api.ErrWorn},
		{readAt("", most, 1), api.ErrName, api.ErrWorn},
		{readAt("oar", -1, 1), api.ErrSize, api.ErrWorn},
		{readAt("oar", 0, 1), api.OK, api.ErrWorn},
		{writeAt("a/b", -1, 1), api.ErrName, api.ErrWorn},
		{writeAt("oar", most, 1), api.ErrSize, api.ErrWorn},
		{writeAt("oar", 0, 1), api.OK, api.ErrWorn},
		{truncate("a/b", -1), api.ErrName, api.ErrWorn},
		{truncate("oar", most+1), api.ErrSize, api.ErrWorn},
		{truncate("oar", 1), api.OK, api.ErrWorn},
		{copyTo("a/b", "c/d"), api.ErrName, api.ErrWorn},
		{copyTo("oar", "c/d"), api.ErrName, api.ErrWorn},
		{copyTo("oar", "peg"), api.OK, api.ErrWorn},
		{create("a/b"), api.ErrName, api.ErrWorn},
		{create("oar"), api.OK, api.ErrWorn},
		{read(fileOf(0, 0), -1), api.ErrArg, api.ErrWorn},
		{setSize("a/b", fileOf(0, 0), -1), api.ErrName, api.ErrWorn},
	} {
		if x.want == api.OK {
			mustMay(t, small(), x.o)
		} else {
			mustNotMay(t, s, x.o, x.want)
		}
		mustRefuse(t, worn, x.o, x.run)
		mustRefuse(t, busy, x.o, api.ErrBusy)
		mustRefuse(t, down, x.o, api.ErrFallen)
		mustRefuse(t, idle, x.o, api.ErrFallen)
		for _, p := range puts() {
			o := x.o
			if names(o.Kind) == "" || isNamed(o.Kind, p.field) {
				continue
			}
			p.on(&o)
			mustNotMay(t, s, o, api.ErrOp)
			mustRefuse(t, worn, o, api.ErrOp)
			mustRefuse(t, busy, o, api.ErrBusy)
			mustRefuse(t, down, o, api.ErrFallen)
		}
	}
}

// Busy in each part, till the operation has returned.
func TestP1502BusyThroughAllParts(t *testing.T) {
	for _, o := range composites() {
		s := withOar(t)
		way, err := s.Invoke(o)
		for ; err == api.OK && s.Pending(); way = append(way[1:], s.step(way[0])...) {
			mustRefuse(t, s, lookup("oar"), api.ErrBusy)
			mustRefuse(t, s, readAt("oar", -1, 0), api.ErrBusy)
			mustRefuse(t, s, api.Op{Kind: -1}, api.ErrBusy)
		}
		if err != api.OK || s.Pending() {
			t.Fatalf("%+v: %v", o, err)
		}
		s.run(t, readAt("oar", 0, 2))
	}
}

// step hands one packet on, to a server or to the user.
func (s *seat) step(p api.Packet) []api.Packet {
	if p.To.Client {
		return s.Step(p.Data)
	}
	return s.answers([]api.Packet{p})
}

// What is refused between the others changes nothing of them.
func TestP1502ChangesNothing(t *testing.T) {
	c := small()
	a, b := hallOf(t, c, 8000).seat(t, me), hallOf(t, c, 8000).seat(t, me)
	refuse := func() {
		t.Helper()
		for want, o := range map[api.Errno]api.Op{
			api.ErrOp: {Kind: api.OReadAt, Name: "oar", Other: "peg"}, api.ErrName: copyTo("oar", "a/b"), api.ErrSize: writeAt("oar", -1, 1),
			api.ErrIndex: read(fileOf(1, 1), -1), api.ErrBlock: write(fileOf(1, 1), 0, 1),
		} {
			if a.Pending() {
				want = api.ErrBusy
			}
			mustRefuse(t, a, o, want)
		}
	}
	r, known := randomly(3), newStore(c, "")
	for i := range 200 {
		o := r.op(known)
		known.Do(me, 1+100*i, o)
		refuse()
		way, err := a.Invoke(o)
		same, sameErr := b.Invoke(o)
		for err == api.OK && len(way) > 0 {
			refuse()
			if !samePackets(way, same) {
				t.Fatalf("%+v: %v, not %v", o, way, same)
			}
			way, same = append(way[1:], a.step(way[0])...), append(same[1:], b.step(same[0])...)
		}
		if err != sameErr || told(a) != told(b) {
			t.Fatalf("%+v: %v, %s, not %v, %s", o, err, told(a), sameErr, told(b))
		}
	}
	mustLines(t, a.lines, b.lines...)
	if a.holds() != b.holds() || len(a.lines) < 500 {
		t.Error("the servers do not hold the same")
	}
}
