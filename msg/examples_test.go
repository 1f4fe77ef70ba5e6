package msg_test

import (
	"bytes"
	"testing"

	"cairn/api"
	"cairn/msg"
	"cairn/wire"
)

// The chapter's examples.

func TestP501Example1(t *testing.T) {
	for i, c := range []struct {
		x api.Command
		e api.Errno
	}{
		{api.Command{Kind: api.CCreate, Client: 4, Op: 9, Name: "plum"}, api.OK},
		{api.Command{Kind: api.CCreate, Client: 4, Op: 9, Name: "plum", Size: 1}, api.ErrCommand},
		{api.Command{Kind: api.CCreate, Client: 4, Op: 9}, api.ErrCommand},
		{api.Command{Kind: api.CCreate, Client: 4, Op: 9, Name: "a/b"}, api.ErrCommand},
		{api.Command{Kind: api.CCreate, Client: 0, Op: 9, Name: "plum"}, api.ErrCommand},
		{api.Command{Kind: api.CList, Client: 4, Op: 9}, api.OK},
		{api.Command{Kind: api.CList, Client: 4, Op: 9, Name: "plum"}, api.ErrCommand},
		{api.Command{Kind: api.CGrow, Client: 4, Op: 9, Name: "plum", File: file(4, 2), Size: 3145728}, api.OK},
		{api.Command{Kind: api.CGrow, Client: 4, Op: 9, Name: "plum", File: file(4, 2), Size: 3145729}, api.ErrCommand},
		{api.Command{Kind: api.CGrow, Client: 4, Op: 9, Name: "plum", File: file(0, 0), Size: 3145728}, api.ErrCommand},
	} {
		if e := msg.Command(c.x, small); e != c.e {
			t.Errorf("%d: %v, want %v", i, e, c.e)
		}
	}
}

func query() api.Msg {
	return api.Msg{Kind: api.MQuery, From: client(4), To: server(2), Op: 9, Round: 1, Key: blockKey(4, 2, 0)}
}

// mustRefuseChanged: the message with one thing put otherwise is none.
func mustRefuseChanged(t *testing.T, m api.Msg, puts ...func(*api.Msg)) {
	t.Helper()
	for i, put := range puts {
		x := m
		put(&x)
		if e := msg.Valid(x, small); e != api.ErrMsg {
			t.Errorf("change %d: Valid: %v", i, e)
		}
		if b, e := msg.Encode(x, small); e != api.ErrMsg || len(b) != 0 {
			t.Errorf("change %d: Encode: %v, %v", i, b, e)
		}
	}
}

func mustEncode(t *testing.T, m api.Msg, body ...byte) {
	t.Helper()
	if b, e := msg.Encode(m, small); e != api.OK || !bytes.Equal(b, wire.Seal(body)) {
		t.Errorf("%+v: %v, %v", m, b, e)
	}
}

func TestP504Example2(t *testing.T) {
	mustEncode(t, query(), 1, 1, 4, 0, 2, 9, 1, 1, 4, 2, 0)
	mustRefuseChanged(t, query(), func(m *api.Msg) { m.To = server(5) }, func(m *api.Msg) { m.From = server(1) },
		func(m *api.Msg) { m.Round = 0 }, func(m *api.Msg) { m.Block = []byte{1, 2, 3} })
}

func TestP504Example3(t *testing.T) {
	put := query()
	put.Kind, put.Stamp, put.Block = api.MPut, stamp(7, 4), []byte{1, 2, 3}
	mustEncode(t, put, 2, 1, 4, 0, 2, 9, 1, 1, 4, 2, 0, 7, 4, 3, 1, 2, 3)
	mustRefuseChanged(t, put, func(m *api.Msg) { m.Block = []byte{1, 2} }, func(m *api.Msg) { m.Stamp = stamp(0, 0) })
	value := api.Msg{Kind: api.MValue, From: server(2), To: client(4), Op: 9, Round: 1, Key: blockKey(4, 2, 0), Block: []byte{0, 0, 0}}
	mustEncode(t, value, 11, 0, 2, 1, 4, 9, 1, 1, 4, 2, 0, 0, 0, 3, 0, 0, 0)
	mustRefuseChanged(t, value, func(m *api.Msg) { m.Block = []byte{0, 1, 0} })
}

func TestP504Example4(t *testing.T) {
	promise := api.Msg{Kind: api.MPromise, From: server(3), To: client(4), Op: 9, Round: 2, Key: instanceKey(1, 5), Stamp: stamp(5, 4), Held: stamp(5, 4), Command: create}
	if e := msg.Valid(promise, small); e != api.OK {
		t.Errorf("Valid: %v", e)
	}
	mustRefuseChanged(t, promise, func(m *api.Msg) { m.Held = stamp(5, 5) }, func(m *api.Msg) { m.Held = stamp(0, 0) })
}

func TestP505Example5(t *testing.T) {
	if b, e := msg.PackInstance(api.Instance{}, small); e != api.OK || !bytes.Equal(b, wire.Seal([]byte{0, 0, 0, 0, 0, 0})) {
		t.Errorf("the zero Instance: %v, %v", b, e)
	}
	if b, e := msg.PackBucket(api.Bucket{}, small); e != api.OK || !bytes.Equal(b, wire.Seal([]byte{0, 0, 0})) {
		t.Errorf("the zero Bucket: %v, %v", b, e)
	}
	if b, e := msg.PackBlock(api.Block{Data: []byte{0, 0, 0}}, small); e != api.OK || !bytes.Equal(b, wire.Seal([]byte{0, 0, 3, 0, 0, 0})) {
		t.Errorf("the block of zeros: %v, %v", b, e)
	}
	for _, x := range []api.Block{{Data: []byte{0, 0, 1}}, {Stamp: stamp(1, 0), Data: []byte{0, 0, 0}}, {Stamp: stamp(1, 0), Data: []byte{1, 2, 3}}} {
		if b, e := msg.PackBlock(x, small); e != api.ErrArg || len(b) != 0 {
			t.Errorf("%+v: %v, %v", x, b, e)
		}
	}
}

func TestP506Example6(t *testing.T) {
	for _, c := range []struct {
		b []byte
		e api.Errno
	}{
		{nil, api.ErrCut}, {wire.Seal(nil), api.ErrMsg}, {wire.Seal([]byte{1, 1, 4, 0, 2, 9, 1, 1, 4, 2, 0, 0}), api.ErrMsg}, {wire.Seal([]byte{1, 1, 4, 0, 2, 9, 1, 1, 4, 2, 0}), api.OK},
	} {
		m, e := msg.Decode(c.b, small)
		if e != c.e || e != api.OK && !alike(m, api.Msg{}) || e == api.OK && !alike(m, query()) {
			t.Errorf("%v: %+v, %v", c.b, m, e)
		}
	}
}
