package server_test

import (
	"testing"

	"cairn/api"
	"cairn/server"
	"cairn/stable"
)

var x = api.Command{Kind: api.CCreate, Client: 4, Op: 1, Name: "plum"}

func blank() api.Msg {
	return api.Msg{Kind: api.MValue, Block: []byte{0, 0, 0}}
}

func ack() api.Msg { return api.Msg{Kind: api.MAck} }

func TestP1302Example(t *testing.T) {
	most := server.Most(three())
	if most != [4]int{0, 25, 6934, 316} {
		t.Fatalf("%v", most)
	}
	for kind, want := range []int{0, 2, 32, 2} {
		if got := stable.Width(kind, most); got != want {
			t.Errorf("the width of the kind %d: %d, not %d", kind, got, want)
		}
	}
}

func TestP1303Example1(t *testing.T) {
	s, d := fresh(t, 40)
	k := block(0)
	must(t, s, query(k), blank())
	must(t, s, put(k, stamp(7, 4), "\x01\x02\x03"), ack())
	must(t, s, put(k, stamp(6, 5), "\x04\x05\x06"), ack())
	if b := s.Block(k); !same(b, api.Block{Stamp: stamp(7, 4), Data: []byte{1, 2, 3}}) {
		t.Errorf("%+v", b)
	}
	mustLast(t, s, three(), d)
}

// decide is the chapter's second example.
func decide(t *testing.T, s machine) {
	t.Helper()
	must(t, s, prepare(at(1), stamp(3, 4)), api.Msg{Kind: api.MPromise, Stamp: stamp(3, 4)})
	must(t, s, accept(at(1), stamp(3, 4), x), api.Msg{Kind: api.MAccepted, Stamp: stamp(3, 4)})
	must(t, s, learned(at(1), x), api.Msg{})
	must(t, s, prepare(at(1), stamp(9, 9)), api.Msg{Kind: api.MKnown, Command: x})
}

func TestP1303Example2(t *testing.T) {
	s, d := fresh(t, 40)
	decide(t, s)
	mustLast(t, s, three(), d)
}

func TestP1306Example3(t *testing.T) {
	s, d := fresh(t, 40)
	decide(t, s)
	mustTrim(t, s, 9, 1)
	f := api.File{Client: 4, Op: 1}
	want := api.Bucket{Upto: 1, Entries: []api.Entry{{Name: "plum", File: f}}, Lasts: []api.Last{{Client: 4, Op: 1, Instance: 1, File: f}}}
	if b := s.Bucket(1); !same(b, want) {
		t.Errorf("%+v, not %+v", b, want)
	}
	if i := s.Instance(at(1)); i != clear {
		t.Errorf("%+v", i)
	}
	must(t, s, prepare(at(1), stamp(9, 9)), api.Msg{Kind: api.MBucket, Bucket: want})
	mustTrim(t, s, 9, 1)
	mustRefuseTrim(t, s, 2, 0, api.ErrBucket)
	mustRefuseTrim(t, s, 1, -1, api.ErrArg)
	mustLast(t, s, three(), d)
}

func TestP1304Example4(t *testing.T) {
	s, d := fresh(t, 40)
	must(t, s, put(block(0), stamp(7, 4), "\x01\x02\x03"), ack())
	decide(t, s)
	mustTrim(t, s, 9, 1)
	if taken := laying(t, three(), d).Taken(); taken != 34 {
		t.Fatalf("%d are taken", taken)
	}
	for n := 1; n <= 3; n++ {
		must(t, s, put(block(n), stamp(1, 4), "new"), ack())
	}
	mustWrite(t, d, false, func() { mustNothing(t, s, put(block(4), stamp(1, 4), "new")) })
	must(t, s, put(block(3), stamp(2, 4), "two"), ack())
	must(t, s, query(block(4)), blank())
}

func TestP1305Example5(t *testing.T) {
	for n, want := range map[int]string{0: "old", 1: "new"} {
		s, d := fresh(t, 40)
		must(t, s, put(block(0), stamp(7, 4), "old"), ack())
		s.Arm(n)
		mustNothing(t, s, put(block(0), stamp(8, 4), "new"))
		mustBeDown(t, s, d)
		if b := started(t, three(), d).Block(block(0)); string(b.Data) != want {
			t.Errorf("behind Arm(%d): %+v", n, b)
		}
	}
	s, d := fresh(t, 40)
	s.Arm(5)
	mustNothing(t, s, query(block(0)))
	mustBeDown(t, s, d)
}

func TestP1307Example6(t *testing.T) {
	s, _ := fresh(t, 40)
	decide(t, s)
	mustTrim(t, s, 9, 1)
	mustMend(t, s, three(), 3, dir, 2)
	mustRefuseMend(t, s, 2, dir, api.ErrAddr)
	mustRefuseMend(t, s, 3, at(1), api.ErrKey)
}
