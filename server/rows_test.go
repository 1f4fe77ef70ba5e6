package server_test

import (
	"fmt"
	"math/rand"
	"testing"

	"cairn/api"
	"cairn/disk"
	"cairn/server"
)

// call is one call of a server, and what it answers as text; nil: it is started again.
type call struct {
	name string
	do   func(s machine) string
}

func packets(list []api.Packet) string { return fmt.Sprint(len(list), list) }

func stepping(t testing.TB, c api.Config, m api.Msg) call {
	b := encoded(t, c, m)
	return call{fmt.Sprintf("%+v", m), func(s machine) string { return packets(s.Step(b)) }}
}

func trimming(number, upto int) call {
	return call{fmt.Sprintf("Trim(%d, %d)", number, upto), func(s machine) string { return fmt.Sprint(s.Trim(number, upto)) }}
}

func mending(other int, k api.Key) call {
	return call{fmt.Sprintf("Mend(%d, %v)", other, k), func(s machine) string {
		list, err := s.Mend(other, k)
		return packets(list) + fmt.Sprint(err)
	}}
}

func arming(n int) call {
	return call{fmt.Sprintf("Arm(%d)", n), func(s machine) string { s.Arm(n); return "" }}
}

func limiting(n int) call {
	return call{fmt.Sprintf("Limit(%d)", n), func(s machine) string { s.Limit(n); return "" }}
}

func junk(b string) call {
	return call{"junk " + b, func(s machine) string { return packets(s.Step([]byte(b))) }}
}

var starting = call{name: "a start"}

// pair is a server over a disk beside the plain one over a shelf: they are handed the same calls.
type pair struct {
	c     api.Config
	d     *disk.Disk
	s     *server.Server
	p     *plain
	trail []string
}

func newPair(t testing.TB, c api.Config, sectors int) *pair {
	t.Helper()
	d := newDisk(t, sectors)
	return &pair{c: c, d: d, s: started(t, c, d), p: newPlain(c, me, newShelf(sectors), "")}
}

func (x *pair) call(t testing.TB, c call) {
	t.Helper()
	x.trail = append(x.trail, c.name)
	if c.do == nil {
		x.s, x.p = started(t, x.c, x.d), newPlain(x.c, me, x.p.shelf, "")
	} else {
		writes, records := x.d.Counts().Writes, x.p.records
		got, want := c.do(x.s), c.do(x.p)
		if got != want {
			t.Fatalf("%q: answered\n%s\nnot\n%s", x.trail, got, want)
		}
		if wrote := x.d.Counts().Writes != writes; wrote != (x.p.records != records) {
			t.Fatalf("%q: %d records, writes: %v", x.trail, x.p.records-records, wrote)
		}
	}
	if got, want := view(x.s, x.c), view(x.p, x.c); got != want {
		t.Fatalf("%q: it holds\n%s\nnot\n%s", x.trail, got, want)
	}
}

// end starts both again: what lies there is the same, too, and so is how much room is left.
func (x *pair) end(t testing.TB) {
	t.Helper()
	x.call(t, starting)
	x.s = started(t, x.c, loaded(t, x.d.Image()))
	if got, want := view(x.s, x.c), view(x.p, x.c); got != want {
		t.Fatalf("%q: over its image it holds\n%s\nnot\n%s", x.trail, got, want)
	}
	var keys []api.Key
	for k := range laying(t, x.c, x.d).All() {
		keys = append(keys, k)
		if _, there := x.p.shelf.lies[k]; !there {
			t.Fatalf("%q: a record under %v", x.trail, k)
		}
	}
	if len(keys) != len(x.p.shelf.lies) {
		t.Fatalf("%q: there lie %v, not %v", x.trail, keys, x.p.shelf.lies)
	}
}

// alphabet is calls of which rows are made: all kinds, of few keys, so that they meet.
func alphabet(t testing.TB) []call {
	c := three()
	m := func(m api.Msg) call { return stepping(t, c, m) }
	away := query(block(0))
	away.To = node(3)
	return []call{
		m(query(block(0))), m(put(block(0), stamp(1, 4), "one")), m(put(block(0), stamp(2, 3), "two")), m(put(block(1), stamp(1, 4), "one")),
		m(prepare(at(1), stamp(2, 4))), m(prepare(at(2), stamp(1, 4))), m(accept(at(1), stamp(1, 4), other(1))), m(accept(at(2), stamp(3, 4), command(2))),
		m(learned(at(1), command(1))), m(learned(at(2), command(2))), m(learned(at(3), command(3))),
		m(ask(block(0), 0)), m(ask(dir, 1)), m(ask(dir, 2)),
		m(haveBlock(block(0), stamp(2, 4), "new")), m(have(1, true, command(1), command(2))), m(have(2, false, zero, command(3))), m(haveBucket(brought(2), true)), m(haveBucket(brought(3), false)),
		trimming(number, 1), trimming(number, 9), trimming(0, 1), trimming(2, 1), mending(3, dir), mending(2, dir), mending(1, block(0)),
		arming(0), arming(1), arming(2), limiting(4), limiting(36), junk("?"), m(away), starting,
	}
}

// Every row of two calls behind each of some beginnings.
func TestP1303ShortRows(t *testing.T) {
	t.Parallel()
	calls := alphabet(t)
	begin := [][]call{nil}
	for _, list := range [][]api.Msg{
		{put(block(0), stamp(2, 4), "two"), accept(at(1), stamp(2, 4), other(1))},
		{learned(at(1), command(1)), learned(at(2), command(2)), prepare(at(3), stamp(2, 4))},
		{learned(at(1), command(1)), learned(at(3), command(3))},
		{haveBucket(brought(1), false), learned(at(2), command(2))},
	} {
		var l []call
		for _, m := range list {
			l = append(l, stepping(t, three(), m))
		}
		begin = append(begin, l)
	}
	// a trim that fell behind its bucket, and behind one instance
	full := begin[2]
	begin = append(begin, append(full[:len(full):len(full)], arming(1), trimming(number, 2), starting), append(full[:len(full):len(full)], arming(2), trimming(number, 2), starting))
	for i, first := range begin {
		t.Run(fmt.Sprint(i), func(t *testing.T) {
			t.Parallel()
			for _, a := range calls {
				for _, b := range calls {
					x := newPair(t, three(), 40)
					for _, c := range first {
						x.call(t, c)
					}
					x.call(t, a)
					x.call(t, b)
					x.end(t)
				}
			}
		})
	}
}

// Long rows of any calls.
func TestP1303LongRows(t *testing.T) {
	t.Parallel()
	for seed := range 8 {
		t.Run(fmt.Sprint(seed), func(t *testing.T) {
			t.Parallel()
			r := rand.New(rand.NewSource(int64(seed)))
			for range 25 {
				x := newPair(t, three(), []int{12, 40, 50, 80, 200}[r.Intn(5)])
				for range 80 {
					x.call(t, anyCall(t, r, x.c))
				}
				x.end(t)
			}
		})
	}
}

// Long rows of a configuration in which not all keys are the server's.
func TestP1303LongRowsOfOtherGroups(t *testing.T) {
	t.Parallel()
	for seed := range 4 {
		t.Run(fmt.Sprint(seed), func(t *testing.T) {
			t.Parallel()
			r := rand.New(rand.NewSource(int64(seed)))
			for range 12 {
				c := seven()
				c.F, c.Room, c.Block = r.Intn(3), 1+r.Intn(3), 1+r.Intn(5)
				c.Points = 1 + r.Intn(4)
				x := newPair(t, c, []int{40, 100, 400}[r.Intn(3)])
				for range 50 {
					x.call(t, anyCall(t, r, x.c))
				}
				x.end(t)
			}
		})
	}
}

// anyCall is any call, mostly a message.
func anyCall(t testing.TB, r *rand.Rand, c api.Config) call {
	bucket := api.Key{Kind: api.KBucket, A: r.Intn(c.Buckets)}
	others := append([]int{0, 77}, c.Servers...)
	switch r.Intn(30) {
	case 0, 1, 2:
		return trimming(bucket.A, r.Intn(8))
	case 3:
		return trimming(r.Intn(c.Buckets+2)-1, r.Intn(8)-1)
	case 4:
		return mending(others[r.Intn(len(others))], bucket)
	case 5:
		return mending(others[r.Intn(len(others))], block(r.Intn(4)))
	case 6:
		return arming(r.Intn(6) - 1)
	case 7:
		return limiting(r.Intn(90) - 1)
	case 8, 9:
		return starting
	case 10:
		return junk(string([]byte{byte(r.Intn(256)), byte(r.Intn(256))}))
	}
	return stepping(t, c, anyMsg(r, c))
}

// anyMsg is any message to a server, of few keys and stamps.
func anyMsg(r *rand.Rand, c api.Config) api.Msg {
	b, n := block(r.Intn(4)), 1+r.Intn(6)
	bucket := api.Key{Kind: api.KBucket, A: r.Intn(min(c.Buckets, 4))}
	i := api.Key{Kind: api.KInstance, A: bucket.A, B: n}
	s := stamp(1+r.Intn(4), 1+r.Intn(3))
	data := make([]byte, c.Block)
	for i := range data {
		data[i] = byte(r.Intn(256))
	}
	m := []api.Msg{query(b), put(b, s, string(data)), prepare(i, s), accept(i, s, other(n)), learned(i, command(n)), ask(b, 0), ask(bucket, n), haveBlock(b, s, string(data)), between(api.MHave, bucket), between(api.MHave, bucket)}[r.Intn(10)]
	switch {
	case m.Kind == api.MHave && m.Key == bucket && r.Intn(2) == 0:
		m.Bucket, m.More = brought(n), r.Intn(2) == 0
	case m.Kind == api.MHave && m.Key == bucket:
		m.Stamp.N, m.More = n, r.Intn(2) == 0
		for l := range r.Intn(4) {
			m.Commands = append(m.Commands, []api.Command{zero, command(n + l)}[r.Intn(2)])
		}
	}
	if !m.From.Client {
		m.From = node([]int{1, 3}[r.Intn(2)])
	} else {
		m.From, m.Op, m.Round = user(1+r.Intn(9)), 1+r.Intn(9), 1+r.Intn(9)
	}
	if m.From != node(1) && r.Intn(20) == 0 {
		m.To = node(1)
	}
	return m
}
