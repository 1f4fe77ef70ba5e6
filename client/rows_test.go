package client_test

import (
	"fmt"
	"math"
	"math/rand"
	"slices"
	"strings"
	"testing"

	"cairn/api"
	"cairn/msg"
)

// call is one call of a client.
type call struct {
	name string // "Invoke", "Step", "Tick", "News", "Stop"
	op   api.Op
	data []byte
}

func (c call) on(m machine) ([]api.Packet, api.Errno) {
	switch c.name {
	case "Invoke":
		return m.Invoke(c.op)
	case "Step":
		return m.Step(c.data), api.OK
	case "Tick":
		return m.Tick(), api.OK
	case "Stop":
		m.Stop()
	}
	return nil, api.OK
}

// differs makes a call of two clients, and tells where they were not alike.
func (c call) differs(m, want machine) string {
	got, err := c.on(m)
	packets, wantErr := c.on(want)
	if err != wantErr || !samePackets(got, packets) {
		return fmt.Sprintf("%v, %v, not %v, %v", got, err, packets, wantErr)
	}
	if a, b := told(m), told(want); a != b {
		return fmt.Sprintf("it tells of itself\n%s, not\n%s", a, b)
	}
	if c.name == "News" {
		if a, b := newsOf(m.News()), newsOf(want.News()); !slices.Equal(a, b) {
			return fmt.Sprintf("news %+v, not %+v", a, b)
		}
	}
	return ""
}

// step hands a message in; what is none that may be as bytes that are none.
func step(m api.Msg, c api.Config) call {
	data, err := msg.Encode(m, c)
	if err != api.OK {
		data = []byte("no message")
	}
	return call{name: "Step", data: data}
}

// move makes a call of where a plain client stands: an answer to what it asks now, say.
type move struct {
	name string
	call func(now *plain) call
}

func invoking(name string, o api.Op) move {
	return move{name, func(*plain) call { return call{name: "Invoke", op: o} }}
}

// answering is an answer of one of the group to what is asked now.
func answering(name string, which int, of func(a ask, kind, from int, now *plain) api.Msg) move {
	return move{name, func(now *plain) call {
		a, kind := now.asks()
		group := groupOf(now.c, a.key)
		return step(of(a, kind, group[which%len(group)], now), now.c)
	}}
}

// another is a command of another client.
var another = api.Command{Kind: api.CCreate, Client: 9, Op: 1, Name: "fig"}

// bucketUpto is a trimmed bucket with a Last of client 9, and, if op is one, of client 5.
func bucketUpto(upto, op int) api.Bucket {
	b := api.Bucket{Upto: upto, Entries: []api.Entry{entry("fig", file(9, 1), 3)}, Lasts: []api.Last{{Client: 9, Op: 1, Instance: 1, File: file(9, 1)}}}
	if op > 0 {
		b.Lasts = append([]api.Last{{Client: me, Op: op, Instance: upto, Err: api.ErrExists, File: file(9, 1), Size: 3}}, b.Lasts...)
	}
	return b
}

func yes(a ask, kind, from int, now *plain) api.Msg { return a.yes(kind, from, now.c) }

// moves are all that brings a client on, each in its plainest form.
func moves() []move {
	return []move{
		invoking("create", create("plum")), invoking("create elsewhere", create(nameIn(four(), 0, 0))), invoking("list", list(3)),
		invoking("read", read(file(5, 1), 0)), invoking("write", write(file(5, 1), 1, "8 bytes.")), invoking("wrong", list(4)),
		{"tick", func(*plain) call { return call{name: "Tick"} }},
		{"news", func(*plain) call { return call{name: "News"} }},
		{"stop", func(*plain) call { return call{name: "Stop"} }},
		answering("yes of the first", 0, yes),
		answering("yes of the second", 1, yes),
		answering("another's", 2, func(a ask, kind, from int, now *plain) api.Msg {
			if kind == api.MQuery {
				return a.value(from, stamp(3, 8), "others'.")
			}
			return a.holding(from, stamp(1, 3), another)
		}),
		answering("refused", 2, func(a ask, _, from int, _ *plain) api.Msg { return a.nack(from, a.ballot+2, 9) }),
		answering("another is known", 2, func(a ask, _, from int, _ *plain) api.Msg { return a.known(from, another) }),
		answering("it is known", 2, func(a ask, _, from int, now *plain) api.Msg {
			return a.known(from, commandOf(create("plum"), me, now.ops))
		}),
		answering("trimmed", 2, func(a ask, _, from int, _ *plain) api.Msg { return a.trimmed(from, bucketUpto(a.key.B+1, 0)) }),
		answering("trimmed with it", 2, func(a ask, _, from int, now *plain) api.Msg {
			return a.trimmed(from, bucketUpto(a.key.B, now.ops))
		}),
		{"late", func(now *plain) call {
			a, kind := now.asksBefore()
			return step(a.yes(kind, groupOf(now.c, a.key)[0], now.c), now.c)
		}},
	}
}

func everyRow(row []move, more int, of []move, do func([]move)) {
	if more == 0 {
		do(row)
		return
	}
	for _, m := range of {
		everyRow(append(row[:len(row):len(row)], m), more-1, of, do)
	}
}

// Every row of three moves behind several beginnings: nothing invoked, each phase, each end, a refusal, a fall.
func TestP1403EveryRow(t *testing.T) {
	t.Parallel()
	all := moves()
	for _, beginning := range []string{
		"", "create", "create, yes of the first, yes of the second", "create, refused", "create, another is known", "create, it is known, write", "create, trimmed with it, read",
		"read, yes of the first", "write, yes of the first, another's", "create elsewhere, it is known, create, it is known, list", "create, it is known, stop",
	} {
		var ahead []move
		for name := range strings.SplitSeq(beginning, ", ") {
			if i := slices.IndexFunc(all, func(m move) bool { return m.name == name }); i >= 0 {
				ahead = append(ahead, all[i])
			}
		}
		t.Run(beginning, func(t *testing.T) {
			t.Parallel()
			everyRow(ahead, 3, all, func(row []move) { mustFollow(t, row) })
		})
	}
}

// mustFollow makes the moves with a client, and with the chapter's words.
func mustFollow(t *testing.T, row []move) {
	c, p := fresh(t), newPlain(four(), me, "")
	for i, m := range row {
		if fault := m.call(p).differs(c, p); fault != "" {
			var names []string
			for _, m := range row[:i+1] {
				names = append(names, m.name)
			}
			t.Fatalf("behind %v: %s", names, fault)
		}
	}
}

// lot draws calls.
type lot struct{ *rand.Rand }

func randomly(seed int64) lot { return lot{rand.New(rand.NewSource(seed))} }

func oneOf[T any](r lot, of ...T) T { return of[r.Intn(len(of))] }

// name is one of few, of the first three buckets mostly, so that they meet again.
func (r lot) name(c api.Config) string {
	if r.Intn(12) == 0 {
		return oneOf(r, "", "a/b", strings.Repeat("n", 255), strings.Repeat("n", 256), "\xff")
	}
	return nameIn(c, r.Intn(min(c.Buckets, 3)), r.Intn(4))
}

func (r lot) file() api.File {
	if r.Intn(12) == 0 {
		return oneOf(r, file(0, 0), file(255, 1<<40), file(256, 1), file(1, 0))
	}
	return file(oneOf(r, me, me, 6), 1+r.Intn(6))
}

func (r lot) data(c api.Config) []byte {
	n := c.Block
	if r.Intn(12) == 0 {
		n = oneOf(r, 0, n-1, n+1)
	}
	data := make([]byte, n)
	r.Read(data)
	return data
}

func (r lot) n(c api.Config, kind int) int {
	most, _ := bound(c, kind)
	if kind == api.OList {
		most = min(most, 2) // the buckets of the names
	}
	return oneOf(r, 0, 0, 1, 1, r.Intn(most+1), most, most, oneOf(r, -1, 1<<40, math.MinInt, r.Intn(9)))
}

// op is of any kind; of each twelve things that it names about one may not be.
func (r lot) op(c api.Config) api.Op {
	name, data := r.name(c), r.data(c)
	kind := 1 + r.Intn(9)
	n := r.n(c, kind)
	o := [...]api.Op{
		create(name), remove(name), lookup(name), list(n), setSize(name, r.file(), n), grow(name, r.file(), n), replace(name, r.file(), r.file(), n),
		read(r.file(), n), write(r.file(), n, string(data)),
	}[kind-1]
	if r.Intn(30) == 0 {
		oneOf(r, puts()...).on(&o)
	}
	if r.Intn(60) == 0 {
		o.Kind = r.Intn(16) - 1
	}
	return o
}

// twisted is a message with one thing otherwise.
func (r lot) twisted(m api.Msg) api.Msg {
	switch r.Intn(8) {
	case 0:
		m.Op += oneOf(r, -1, 1)
	case 1:
		m.Round += oneOf(r, -1, 1)
	case 2:
		m.To.Id = oneOf(r, 1, 4, 6, 255)
	case 3:
		m.From.Id = oneOf(r, 10, 20, 30, 7)
	case 4:
		m.Key.A++
	case 5:
		m.Key.B++
	case 6:
		m.From, m.To = m.To, m.From
	case 7:
		m.Kind = oneOf(r, api.MValue, api.MAck, api.MPromise, api.MNack, api.MAccepted, api.MKnown, api.MBucket, api.MQuery, api.MAsk)
	}
	return m
}

// answer is one to what is asked now, or was asked.
func (r lot) answer(p *plain) api.Msg {
	a, kind := p.asks()
	if r.Intn(12) == 0 {
		a, kind = p.asksBefore()
	}
	from := oneOf(r, groupOf(p.c, a.key)...)
	own := commandOf(create("plum"), me, p.ops)
	switch n := r.Intn(40); {
	case n > 12:
		return a.yes(kind, from, p.c)
	case n > 10 && kind == api.MQuery:
		data := make([]byte, p.c.Block)
		r.Read(data)
		return a.value(from, stamp(1+r.Intn(4), 1+r.Intn(3)), string(data))
	case n > 8 && kind == api.MPrepare:
		return a.holding(from, stamp(oneOf(r, 1, a.ballot), 1+r.Intn(4)), api.Command{Kind: api.CLookup, Client: 1 + r.Intn(9), Op: 1 + r.Intn(9), Name: "fig"})
	case n > 6:
		return a.nack(from, a.ballot+r.Intn(3), 9)
	case n > 4:
		return a.known(from, oneOf(r, another, own))
	case n > 3:
		return a.trimmed(from, bucketUpto(a.key.B+r.Intn(3), oneOf(r, 0, p.ops, p.ops-1)))
	}
	return r.twisted(a.yes(kind, from, p.c))
}

// call is one that brings a client on, mostly.
func (r lot) call(p *plain) call {
	if !p.Pending() && r.Intn(3) > 0 {
		return call{name: "Invoke", op: r.op(p.c)}
	}
	switch r.Intn(20) {
	case 0, 1, 2:
		return call{name: "Tick"}
	case 3:
		return call{name: "News"}
	case 4:
		return call{name: "Invoke", op: r.op(p.c)}
	case 5:
		data := make([]byte, r.Intn(30))
		r.Read(data)
		return call{name: "Step", data: data}
	}
	return step(r.answer(p), p.c)
}

// Long rows of whatever comes, of several configurations.
func TestP1403LongRows(t *testing.T) {
	t.Parallel()
	for _, c := range []api.Config{four(), seven(), least(), {Servers: []int{8, 7, 6, 5, 4, 3, 2, 1}, F: 3, Points: 8, Buckets: 5, Block: 16, Room: 3}} {
		t.Run(fmt.Sprint("F ", c.F, " of ", len(c.Servers)), func(t *testing.T) {
			t.Parallel()
			ends := map[int]int{} // by kind
			for seed := range int64(30) {
				longRow(t, randomly(seed), c, ends)
			}
			for kind := api.OCreate; kind <= api.OWrite; kind++ {
				if ends[kind] < 30 {
					t.Errorf("too few of a kind returned to tell: %v", ends)
				}
			}
		})
	}
}

func longRow(t *testing.T, r lot, c api.Config, ends map[int]int) {
	t.Helper()
	var m machine = made(t, c, me)
	p := newPlain(c, me, "")
	w := newWatch(m)
	kind := 0
	for i := range 1500 {
		one := r.call(p)
		pending := p.Pending()
		if fault := one.differs(w, p); fault != "" {
			t.Fatalf("call %d, %+v: %s", i, one, fault)
		}
		if w.fault != "" {
			t.Fatalf("call %d, %+v: %s", i, one, w.fault)
		}
		if one.name == "Invoke" && !pending {
			kind = one.op.Kind
		}
		if pending && !p.Pending() {
			ends[kind]++
		}
	}
	(call{name: "Stop"}).differs(w, p)
	for range 50 {
		if fault := r.call(p).differs(w, p); fault != "" {
			t.Fatalf("behind Stop: %s", fault)
		}
	}
}
