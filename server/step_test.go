package server_test

import (
	"slices"
	"strings"
	"testing"

	"cairn/api"
	"cairn/bucket"
	"cairn/disk"
	"cairn/server"
)

func value(s api.Stamp, data string) api.Msg {
	return api.Msg{Kind: api.MValue, Stamp: s, Block: []byte(data)}
}

func promise(s, held api.Stamp, c api.Command) api.Msg {
	return api.Msg{Kind: api.MPromise, Stamp: s, Held: held, Command: c}
}

func nack(s api.Stamp) api.Msg { return api.Msg{Kind: api.MNack, Stamp: s} }

func accepted(s api.Stamp) api.Msg { return api.Msg{Kind: api.MAccepted, Stamp: s} }

func known(c api.Command) api.Msg { return api.Msg{Kind: api.MKnown, Command: c} }

func trimmed(b api.Bucket) api.Msg { return api.Msg{Kind: api.MBucket, Bucket: b} }

// replayed is what the decided commands make up to an instance, from the empty bucket on.
func replayed(t testing.TB, upto, room int) api.Bucket {
	t.Helper()
	b, _, err := bucket.Replay(api.Bucket{}, room, commands(1, upto)...)
	if err != api.OK {
		t.Fatal(err)
	}
	return b
}

func TestP1303Query(t *testing.T) {
	s, d := fresh(t, 40)
	mustNone(t, s, d, query(block(0)), blank())
	mustRecord(t, s, d, put(block(0), stamp(3, 4), "abc"), ack())
	mustNone(t, s, d, query(block(0)), value(stamp(3, 4), "abc"))
	mustNone(t, s, d, query(block(1)), blank())
	mustRecord(t, s, d, put(block(0), stamp(3, 5), "\x00\x00\x00"), ack())
	mustNone(t, s, d, query(block(0)), value(stamp(3, 5), "\x00\x00\x00"))
}

// A Put with a stamp alike, lesser and greater: by N, then by the client.
func TestP1303Put(t *testing.T) {
	s, d := fresh(t, 40)
	mustRecord(t, s, d, put(block(0), stamp(3, 4), "abc"), ack())
	for _, low := range []api.Stamp{stamp(3, 4), stamp(3, 3), stamp(2, 4), stamp(2, 255), stamp(1, 1)} {
		mustNone(t, s, d, put(block(0), low, "new"), ack())
		mustNone(t, s, d, put(block(0), low, "abc"), ack())
	}
	for _, high := range []api.Stamp{stamp(3, 5), stamp(4, 1), stamp(4, 2), stamp(api.MaxNum-1, 255), stamp(api.MaxNum, 1), stamp(api.MaxNum, 255)} {
		mustRecord(t, s, d, put(block(0), high, "abc"), ack())
		mustNone(t, s, d, put(block(0), high, "xyz"), ack())
		mustNone(t, s, d, query(block(0)), value(high, "abc"))
	}
	mustRecord(t, s, d, put(block(1), stamp(1, 1), "\x00\x00\x00"), ack())
	mustNone(t, s, d, query(block(1)), value(stamp(1, 1), "\x00\x00\x00"))
}

// Each client is answered, with its own Op and Round.
func TestP1303WhoAsksIsAnswered(t *testing.T) {
	s, _ := fresh(t, 400)
	for i, from := range []int{1, 2, 4, 255} {
		for _, n := range []int{1, 77, api.MaxNum} {
			for _, m := range []api.Msg{query(block(i)), put(block(i), stamp(n, from), "abc"), prepare(at(1), stamp(n, from)), accept(at(1), stamp(n, from), command(1))} {
				m.From, m.Op, m.Round = user(from), n, api.MaxNum+1-n
				got := tell(t, s, three(), m)
				if len(got) != 1 || got[0].To != user(from) || got[0].Op != m.Op || got[0].Round != m.Round || got[0].Key != m.Key || got[0].From != node(me) {
					t.Fatalf("%+v is answered %+v", m, got)
				}
			}
		}
	}
}

func TestP1303Prepare(t *testing.T) {
	s, d := fresh(t, 40)
	k := at(3)
	none := api.Stamp{}
	mustRecord(t, s, d, prepare(k, stamp(3, 4)), promise(stamp(3, 4), none, zero))
	mustNone(t, s, d, prepare(k, stamp(3, 4)), promise(stamp(3, 4), none, zero))
	mustNone(t, s, d, prepare(k, stamp(3, 3)), nack(stamp(3, 4)))
	mustNone(t, s, d, prepare(k, stamp(2, 9)), nack(stamp(3, 4)))
	mustRecord(t, s, d, prepare(k, stamp(3, 5)), promise(stamp(3, 5), none, zero))
	mustRecord(t, s, d, accept(k, stamp(3, 5), other(3)), accepted(stamp(3, 5)))
	mustNone(t, s, d, prepare(k, stamp(3, 5)), promise(stamp(3, 5), stamp(3, 5), other(3)))
	mustRecord(t, s, d, prepare(k, stamp(4, 1)), promise(stamp(4, 1), stamp(3, 5), other(3)))
	mustRecord(t, s, d, learned(k, command(3)), api.Msg{})
	for _, b := range []api.Stamp{stamp(1, 1), stamp(4, 1), stamp(api.MaxNum, 255)} {
		mustNone(t, s, d, prepare(k, b), known(command(3)))
	}
	if i := s.Instance(k); i != decided(3) {
		t.Errorf("%+v", i)
	}
}

func TestP1303Accept(t *testing.T) {
	s, d := fresh(t, 40)
	k := at(last)
	mustRecord(t, s, d, accept(k, stamp(3, 4), other(1)), accepted(stamp(3, 4)))
	mustNone(t, s, d, accept(k, stamp(3, 4), other(1)), accepted(stamp(3, 4)))
	mustNone(t, s, d, accept(k, stamp(3, 3), other(2)), nack(stamp(3, 4)))
	mustRecord(t, s, d, accept(k, stamp(3, 4), other(2)), accepted(stamp(3, 4)))
	mustRecord(t, s, d, accept(k, stamp(5, 1), other(2)), accepted(stamp(5, 1)))
	mustRecord(t, s, d, prepare(k, stamp(9, 9)), promise(stamp(9, 9), stamp(5, 1), other(2)))
	mustNone(t, s, d, accept(k, stamp(9, 8), other(2)), nack(stamp(9, 9)))
	mustRecord(t, s, d, accept(k, stamp(9, 9), other(2)), accepted(stamp(9, 9)))
	if i := s.Instance(k); i != (api.Instance{Promised: stamp(9, 9), Accepted: stamp(9, 9), Command: other(2)}) {
		t.Errorf("%+v", i)
	}
	mustRecord(t, s, d, learned(k, command(3)), api.Msg{})
	mustNone(t, s, d, accept(k, stamp(10, 1), other(2)), known(command(3)))
	mustNone(t, s, d, accept(k, stamp(1, 1), other(2)), known(command(3)))
}

func TestP1303Learned(t *testing.T) {
	s, d := fresh(t, 40)
	mustRecord(t, s, d, learned(at(1), command(1)), api.Msg{})
	mustNone(t, s, d, learned(at(1), command(1)), api.Msg{})
	mustNone(t, s, d, learned(at(1), other(1)), api.Msg{})
	mustRecord(t, s, d, prepare(at(2), stamp(3, 4)), promise(stamp(3, 4), api.Stamp{}, zero))
	mustRecord(t, s, d, learned(at(2), command(2)), api.Msg{})
	mustRecord(t, s, d, accept(at(3), stamp(3, 4), command(3)), accepted(stamp(3, 4)))
	mustRecord(t, s, d, learned(at(3), command(3)), api.Msg{})
	for n := 1; n <= 3; n++ {
		if i := s.Instance(at(n)); i != decided(n) {
			t.Errorf("instance %d: %+v", n, i)
		}
	}
}

// Of a forgotten instance nothing is laid down: whoever asks is answered the bucket. The one behind it is as any other.
func TestP1303Forgotten(t *testing.T) {
	s, d := fresh(t, 80)
	for n := 1; n <= 3; n++ {
		mustDo(t, s, three(), learned(at(n), command(n)))
	}
	mustTrim(t, s, 3, 3)
	b := replayed(t, 3, 2)
	for n := 1; n <= 3; n++ {
		for _, ballot := range []api.Stamp{stamp(1, 1), stamp(api.MaxNum, 255)} {
			mustNone(t, s, d, prepare(at(n), ballot), trimmed(b))
			mustNone(t, s, d, accept(at(n), ballot, other(n)), trimmed(b))
			mustNone(t, s, d, accept(at(n), ballot, command(n)), trimmed(b))
		}
		mustNone(t, s, d, learned(at(n), command(n)), api.Msg{})
		mustNone(t, s, d, learned(at(n), other(n)), api.Msg{})
	}
	mustRecord(t, s, d, prepare(at(4), stamp(1, 1)), promise(stamp(1, 1), api.Stamp{}, zero))
	mustRecord(t, s, d, accept(at(4), stamp(1, 1), command(4)), accepted(stamp(1, 1)))
	mustRecord(t, s, d, learned(at(5), command(5)), api.Msg{})
	must(t, s, prepare(api.Key{Kind: api.KInstance, A: 0, B: 2}, stamp(1, 1)), promise(stamp(1, 1), api.Stamp{}, zero))
}

// half is a server whose trim of the instances 1 to 4 fell behind so many records: the first is the bucket, the others are dropped instances.
func half(t *testing.T, records int) (*server.Server, *disk.Disk) {
	t.Helper()
	s, d := fresh(t, 80)
	for n := 1; n <= 5; n++ {
		mustDo(t, s, three(), learned(at(n), command(n)))
	}
	s.Arm(records)
	mustRefuseTrim(t, s, number, 4, api.ErrFallen)
	return started(t, three(), d), d
}

// lying are the keys under which records lie on a disk.
func lying(t *testing.T, d *disk.Disk) []api.Key {
	t.Helper()
	var list []api.Key
	for k := range laying(t, three(), loaded(t, d.Image())).All() {
		list = append(list, k)
	}
	return list
}

// A forgotten instance whose record lies there still is forgotten all the same.
func TestP1303ForgottenWithARecord(t *testing.T) {
	for dropped := range 5 {
		s, d := half(t, 1+dropped)
		keys := []api.Key{dir}
		for n := 1 + dropped; n <= 5; n++ {
			keys = append(keys, at(n))
		}
		if got := lying(t, d); !slices.Equal(got, keys) {
			t.Fatalf("there lie %v, not %v", got, keys)
		}
		if got := slices.Collect(s.Keys()); !slices.Equal(got, []api.Key{dir, at(5)}) {
			t.Fatalf("it holds %v", got)
		}
		b := replayed(t, 4, 2)
		for n := 1; n <= 4; n++ {
			if i := s.Instance(at(n)); i != clear {
				t.Fatalf("instance %d: %+v", n, i)
			}
			mustNone(t, s, d, prepare(at(n), stamp(9, 9)), trimmed(b))
			mustNone(t, s, d, accept(at(n), stamp(9, 9), other(n)), trimmed(b))
			mustNone(t, s, d, learned(at(n), other(n)), api.Msg{})
		}
		mustNone(t, s, d, ask(dir, 1), api.Msg{Kind: api.MHave, Bucket: b, More: true})
		mustNone(t, s, d, ask(dir, 5), api.Msg{Kind: api.MHave, Stamp: stamp(5, 0), Commands: commands(5, 5)})
		mustNone(t, s, d, have(1, false, other(1), other(2), other(3), other(4), other(5)), api.Msg{})
		mustNone(t, s, d, haveBucket(brought(5), false), api.Msg{})
		mustMend(t, s, three(), 3, dir, 6)
		mustNone(t, s, d, prepare(at(5), stamp(1, 1)), known(command(5)))
	}
}

func TestP1303Ask(t *testing.T) {
	s, d := fresh(t, 80)
	mustNone(t, s, d, ask(block(0), 0), api.Msg{Kind: api.MHave})
	mustNone(t, s, d, ask(dir, 1), api.Msg{Kind: api.MHave, Stamp: stamp(1, 0)})
	mustNone(t, s, d, ask(dir, last+1), api.Msg{Kind: api.MHave, Stamp: stamp(last+1, 0)})
	mustDo(t, s, three(), put(block(0), stamp(3, 4), "abc"), learned(at(1), command(1)), learned(at(2), command(2)), accept(at(3), stamp(1, 1), other(3)), learned(at(4), command(4)), prepare(at(6), stamp(1, 1)))
	mustNone(t, s, d, ask(block(0), 0), api.Msg{Kind: api.MHave, Stamp: stamp(3, 4), Block: []byte("abc")})
	all := []api.Command{command(1), command(2), zero, command(4)}
	for n := 1; n <= 4; n++ {
		mustNone(t, s, d, ask(dir, n), api.Msg{Kind: api.MHave, Stamp: stamp(n, 0), Commands: all[n-1:]})
	}
	mustNone(t, s, d, ask(dir, 5), api.Msg{Kind: api.MHave, Stamp: stamp(5, 0)})
	mustTrim(t, s, 1, 1)
	mustNone(t, s, d, ask(dir, 1), api.Msg{Kind: api.MHave, Bucket: replayed(t, 1, 2), More: true})
	mustNone(t, s, d, ask(dir, 2), api.Msg{Kind: api.MHave, Stamp: stamp(2, 0), Commands: all[1:]})
	mustTrim(t, s, 9, 2)
	mustNone(t, s, d, ask(dir, 2), api.Msg{Kind: api.MHave, Bucket: replayed(t, 2, 2), More: true})
}

// An answer to a mend holds at most MaxHeld instances, and says More.
func TestP1303AskMany(t *testing.T) {
	s, d := fresh(t, 400)
	for n := 1; n <= 150; n += api.MaxHeld {
		mustDo(t, s, three(), have(n, false, commands(n, min(150, n+api.MaxHeld-1))...))
	}
	mustNone(t, s, d, ask(dir, 1), api.Msg{Kind: api.MHave, Stamp: stamp(1, 0), Commands: commands(1, 64), More: true})
	mustNone(t, s, d, ask(dir, 65), api.Msg{Kind: api.MHave, Stamp: stamp(65, 0), Commands: commands(65, 128), More: true})
	mustNone(t, s, d, ask(dir, 129), api.Msg{Kind: api.MHave, Stamp: stamp(129, 0), Commands: commands(129, 150)})
	mustMend(t, s, three(), 3, dir, 151)
	mustLast(t, s, three(), d)
}

func TestP1303HaveBlock(t *testing.T) {
	s, d := fresh(t, 40)
	mustNone(t, s, d, haveBlock(block(0), stamp(0, 0), ""), api.Msg{})
	mustRecord(t, s, d, haveBlock(block(0), stamp(3, 4), "abc"), api.Msg{})
	mustNone(t, s, d, haveBlock(block(0), stamp(0, 0), ""), api.Msg{})
	for _, low := range []api.Stamp{stamp(3, 4), stamp(3, 3), stamp(2, 255), stamp(1, 1)} {
		mustNone(t, s, d, haveBlock(block(0), low, "new"), api.Msg{})
	}
	mustRecord(t, s, d, haveBlock(block(0), stamp(3, 5), "new"), api.Msg{})
	mustNone(t, s, d, query(block(0)), value(stamp(3, 5), "new"))
	mustNone(t, s, d, put(block(0), stamp(3, 5), "xyz"), ack())
}

// An MHave of commands: none, one, many of them changed; in the order of the instances.
func TestP1303HaveCommands(t *testing.T) {
	s, d := fresh(t, 400)
	mustNone(t, s, d, have(1, false), api.Msg{})
	mustNone(t, s, d, have(1, true), api.Msg{})
	mustNone(t, s, d, have(1, false, zero, zero), api.Msg{})
	mustNone(t, s, d, have(1, true, zero, zero), api.Msg{Kind: api.MAsk, Stamp: stamp(3, 0)})
	mustRecord(t, s, d, have(2, false, command(2)), api.Msg{})
	mustNone(t, s, d, have(2, true, other(2)), api.Msg{Kind: api.MAsk, Stamp: stamp(3, 0)})
	mustRecord(t, s, d, accept(at(4), stamp(9, 9), other(4)), accepted(stamp(9, 9)))
	mustRecord(t, s, d, have(1, true, command(1), other(2), zero, command(4), command(5)), api.Msg{Kind: api.MAsk, Stamp: stamp(6, 0)})
	for n, want := range map[int]api.Instance{1: decided(1), 2: decided(2), 3: clear, 4: decided(4), 5: decided(5), 6: clear} {
		if i := s.Instance(at(n)); i != want {
			t.Errorf("instance %d: %+v", n, i)
		}
	}
	mustTrim(t, s, 9, 2)
	mustRecord(t, s, d, have(1, false, other(1), other(2), command(3), other(4)), api.Msg{})
	mustTrim(t, s, 9, 5)
	mustRecord(t, s, d, have(10, true, commands(10, 73)...), api.Msg{Kind: api.MAsk, Stamp: stamp(74, 0)})
	mustRecord(t, s, d, have(last, true, command(last)), api.Msg{Kind: api.MAsk, Stamp: stamp(last+1, 0)})
	mustNone(t, s, d, have(last+1, true), api.Msg{})
}

// An MHave of a bucket whose Upto forgets instances that lie there: these are dropped, whatever they held; those behind it stay.
func TestP1303HaveBucket(t *testing.T) {
	s, d := fresh(t, 80)
	mustDo(t, s, three(), learned(at(1), command(1)), accept(at(2), stamp(3, 4), other(2)), prepare(at(3), stamp(3, 4)), learned(at(4), command(4)), accept(at(5), stamp(5, 5), other(5)))
	mustDo(t, s, three(), learned(api.Key{Kind: api.KInstance, A: 0, B: 1}, command(1)))
	mustNone(t, s, d, haveBucket(brought(1), false), api.Msg{})
	mustNone(t, s, d, haveBucket(brought(1), true), api.Msg{Kind: api.MAsk, Stamp: stamp(2, 0)})
	mustRecord(t, s, d, haveBucket(brought(3), true), api.Msg{Kind: api.MAsk, Stamp: stamp(4, 0)})
	if got, want := lying(t, d), []api.Key{dir, {Kind: api.KInstance, A: 0, B: 1}, at(4), at(5)}; !slices.Equal(got, want) {
		t.Errorf("there lie %v, not %v", got, want)
	}
	if b := s.Bucket(number); !same(b, brought(3)) {
		t.Errorf("%+v", b)
	}
	// instance 4 is decided: a bucket that goes no further brings nothing, though it is another one
	mustNone(t, s, d, haveBucket(brought(4), false), api.Msg{})
	mustNone(t, s, d, haveBucket(brought(2), false), api.Msg{})
	mustRecord(t, s, d, haveBucket(brought(5), false), api.Msg{})
	if got, want := lying(t, d), []api.Key{dir, {Kind: api.KInstance, A: 0, B: 1}}; !slices.Equal(got, want) {
		t.Errorf("there lie %v, not %v", got, want)
	}
	mustRecord(t, s, d, haveBucket(brought(last), true), api.Msg{Kind: api.MAsk, Stamp: stamp(last+1, 0)})
	mustNone(t, s, d, prepare(at(last), stamp(1, 1)), trimmed(brought(last)))
	mustMend(t, s, three(), 3, dir, last+1)
}

// A bucket that is brought drops what an elder fall left of forgotten instances, too.
func TestP1303HaveBucketDropsWhatLiesThereStill(t *testing.T) {
	s, d := half(t, 2)
	mustRecord(t, s, d, haveBucket(brought(7), false), api.Msg{})
	if got := lying(t, d); !slices.Equal(got, []api.Key{dir}) {
		t.Errorf("there lie %v", got)
	}
}

// Who sent it need not stand in the key's group.
func TestP1303AnySender(t *testing.T) {
	c := seven()
	b, k, i := of(t, c, true)
	s := started(t, c, newDisk(t, 120))
	for _, from := range c.Servers {
		if from == me {
			continue
		}
		for _, m := range []api.Msg{ask(b, 0), ask(k, 1)} {
			m.From = node(from)
			if got := tell(t, s, c, m); len(got) != 1 || got[0].Kind != api.MHave || got[0].To != node(from) {
				t.Fatalf("%+v is answered %+v", m, got)
			}
		}
		m := haveBlock(b, stamp(from, 1), "abc")
		m.From = node(from)
		mustDo(t, s, c, m)
		h := between(api.MHave, k)
		h.From, h.Stamp.N, h.Commands, h.More = node(from), 1, commands(1, 1), true
		if got := tell(t, s, c, h); len(got) != 1 || got[0].Kind != api.MAsk || got[0].To != node(from) {
			t.Fatalf("%+v is answered %+v", h, got)
		}
	}
	if s.Block(b).Stamp != stamp(255, 1) || s.Instance(i) != decided(1) {
		t.Errorf("%+v, %+v", s.Block(b), s.Instance(i))
	}
}

// asking is a message of each kind that a server takes, of these keys.
func asking(b, d, i api.Key) []api.Msg {
	h, m := between(api.MHave, d), between(api.MHave, d)
	h.Bucket, h.More = brought(3), true
	m.Stamp.N, m.Commands, m.More = 1, commands(1, 3), true
	return []api.Msg{query(b), put(b, stamp(9, 9), "new"), prepare(i, stamp(9, 9)), accept(i, stamp(9, 9), other(1)), learned(i, command(1)), ask(b, 0), ask(d, 1), haveBlock(b, stamp(9, 9), "new"), h, m}
}

func TestP1303ForeignKeys(t *testing.T) {
	c := seven()
	b, k, i := of(t, c, false)
	d := newDisk(t, 120)
	s := started(t, c, d)
	was := view(s, c)
	mustWrite(t, d, false, func() {
		for _, m := range asking(b, k, i) {
			if got := tell(t, s, c, m); len(got) != 0 {
				t.Errorf("%+v is answered %+v", m, got)
			}
		}
	})
	if view(s, c) != was {
		t.Error("it holds something")
	}
	ours, ourDir, ourAt := of(t, c, true)
	mustDo(t, s, c, asking(ours, ourDir, ourAt)...)
	if keys := slices.Collect(s.Keys()); !slices.Equal(keys, []api.Key{ours, ourDir}) {
		t.Errorf("%v", keys)
	}
}

func TestP1303ToAnother(t *testing.T) {
	s, d := fresh(t, 120)
	mustDo(t, s, three(), put(block(0), stamp(1, 1), "abc"), learned(at(1), command(1)))
	was := view(s, three())
	mustWrite(t, d, false, func() {
		for _, to := range []int{1, 3} {
			for _, m := range asking(block(0), dir, at(2)) {
				m.To = node(to)
				if m.From == m.To {
					m.From = node(4 - to)
				}
				if got := tell(t, s, three(), m); len(got) != 0 {
					t.Errorf("%+v is answered %+v", m, got)
				}
			}
		}
		// these go to clients, client 2 among them
		for _, a := range []api.Msg{blank(), ack()} {
			a = answers(asked(0, block(0)), a)
			a.From, a.To = node(3), user(me)
			if got := tell(t, s, three(), a); len(got) != 0 {
				t.Errorf("%+v is answered %+v", a, got)
			}
		}
		for _, a := range []api.Msg{promise(stamp(9, 9), api.Stamp{}, zero), nack(stamp(9, 9)), accepted(stamp(9, 9)), known(other(2)), trimmed(brought(5))} {
			a = answers(asked(0, at(2)), a)
			a.From, a.To = node(3), user(me)
			if got := tell(t, s, three(), a); len(got) != 0 {
				t.Errorf("%+v is answered %+v", a, got)
			}
		}
	})
	if view(s, three()) != was {
		t.Error("it holds something else")
	}
}

// The greatest records there are: of a block, an instance, a bucket.
func TestP1303GreatestRecords(t *testing.T) {
	c := three()
	c.Block, c.Room = api.MaxBlock, api.MaxRoom
	d := newDisk(t, 500)
	s := started(t, c, d)
	long := strings.Repeat("n", api.MaxName)
	f := api.File{Client: 255, Op: api.MaxNum}
	great := api.Command{Kind: api.CReplace, Client: 255, Op: api.MaxNum, Name: long, File: f, New: f, Size: api.MaxIndex * api.MaxBlock}
	b := api.Bucket{Upto: last - 1}
	for n := range api.MaxRoom {
		b.Entries = append(b.Entries, api.Entry{Name: string([]byte{byte(1 + n/16), byte(1 + n%16)}) + long[2:], File: f, Size: great.Size})
	}
	for n := 1; n <= api.MaxId; n++ {
		b.Lasts = append(b.Lasts, api.Last{Client: n, Op: api.MaxNum, Instance: last - 1, Err: api.ErrStale, File: f, Size: great.Size})
	}
	h := between(api.MHave, dir)
	h.Bucket = b
	data := strings.Repeat("\xff", api.MaxBlock)
	mustDo(t, s, c, h, put(block(0), stamp(api.MaxNum, 255), data), accept(at(last), stamp(api.MaxNum, 255), great), learned(at(last), great))
	if x := s.Block(block(0)); x.Stamp != stamp(api.MaxNum, 255) || string(x.Data) != data {
		t.Error("the block")
	}
	if !same(s.Bucket(number), b) || s.Instance(at(last)) != (api.Instance{Command: great, Decided: true}) {
		t.Error("the bucket, or the instance")
	}
	mustLast(t, s, c, d)
	mustTrim(t, s, last, last)
	if x := s.Bucket(number); x.Upto != last || len(x.Entries) != api.MaxRoom || x.Lasts[254].Instance != last {
		t.Errorf("Upto %d", x.Upto)
	}
	mustLast(t, s, c, d)
}
