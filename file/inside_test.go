package file

import (
	"testing"

	"cairn/api"
)

// What no test can bring about by what it hands in, or see by what is answered.

var config = api.Config{Servers: []int{30, 10, 20}, F: 1, Points: 2, Buckets: 2, Block: 4, Room: 3}

func withOar(t *testing.T) *Model {
	t.Helper()
	m, err := NewModel(config)
	if err != api.OK {
		t.Fatal(err)
	}
	m.Do(7, 1, api.Op{Kind: api.OCreate, Name: "oar"})
	m.Do(7, 2, api.Op{Kind: api.OWriteAt, Name: "oar", Data: []byte{1, 2, 3, 4, 5, 6}})
	return m
}

// fill leaves so many instances to the bucket of a name.
func (m *Model) fill(name string, left int) {
	n := m.ring.Bucket(name)
	b := m.buckets[n]
	b.Upto = api.MaxInstance - left
	m.buckets[n] = b
}

// A bucket whose instances are used up refuses a part; what the parts ahead of it did is left.
func TestP1508InstancesUsedUp(t *testing.T) {
	written := api.Op{Kind: api.OWriteAt, Name: "oar", At: 4, Data: []byte{7, 7, 7, 7}}
	shorter := api.Op{Kind: api.OTruncate, Name: "oar", N: 4}
	for _, x := range []struct {
		o    api.Op
		left int
		want api.Errno
		last string // the block 1 then
	}{
		{written, 0, api.ErrWorn, "\x05\x06\x00\x00"}, {written, 1, api.ErrWorn, "\x07\x07\x07\x07"}, {written, 2, api.OK, "\x07\x07\x07\x07"},
		{shorter, 0, api.ErrWorn, "\x05\x06\x00\x00"}, {shorter, 1, api.ErrWorn, "\x00\x00\x00\x00"}, {shorter, 2, api.OK, "\x00\x00\x00\x00"},
		{api.Op{Kind: api.OReadAt, Name: "oar", N: 6}, 1, api.OK, "\x05\x06\x00\x00"}, {api.Op{Kind: api.OLookup, Name: "oar"}, 0, api.ErrWorn, "\x05\x06\x00\x00"},
		{api.Op{Kind: api.OLookup, Name: "none"}, 1, api.ErrNotFound, "\x05\x06\x00\x00"},
	} {
		m := withOar(t)
		m.fill("oar", x.left)
		r := m.Do(9, 1, x.o)
		if r.Err != x.want || r.Err == api.ErrWorn && (r.Entry != api.Entry{} || len(r.Data)+len(r.List)+r.N > 0) {
			t.Errorf("%+v, %d left: %+v", x.o, x.left, r)
		}
		if got := m.Do(1, 1, api.Op{Kind: api.ORead, File: api.File{Client: 7, Op: 1}, N: 1}); string(got.Data) != x.last {
			t.Errorf("%+v, %d left: the block is %v", x.o, x.left, got.Data)
		}
		if b := m.buckets[m.ring.Bucket("oar")]; b.Upto > api.MaxInstance || len(b.Entries) != 1 {
			t.Errorf("%+v, %d left: %+v", x.o, x.left, b)
		}
	}
}

// A command that is refused takes an instance all the same, as chapter 10 says.
func TestP1508RefusedCommandsCount(t *testing.T) {
	m := withOar(t)
	m.fill("oar", 3)
	for _, x := range []struct {
		o    api.Op
		want api.Errno
	}{
		{api.Op{Kind: api.OCreate, Name: "oar"}, api.ErrExists}, {api.Op{Kind: api.OCreate, Name: "a/b"}, api.ErrName},
		{api.Op{Kind: api.OSetSize, Name: "oar", File: api.File{Client: 9, Op: 9}}, api.ErrStale},
		{api.Op{Kind: api.OLookup, Name: "oar"}, api.OK}, {api.Op{Kind: api.OLookup, Name: "oar"}, api.ErrWorn},
	} {
		if r := m.Do(9, 1, x.o); r.Err != x.want {
			t.Errorf("%+v: %+v, not %v", x.o, r, x.want)
		}
	}
}

// Blocks of zeros are as if nobody had written them: nothing is kept of them.
func TestP1508ZerosAreNotKept(t *testing.T) {
	m := withOar(t)
	f := api.File{Client: 7, Op: 1}
	if len(m.blocks) != 2 {
		t.Fatalf("%v", m.blocks)
	}
	m.Do(7, 20, api.Op{Kind: api.OWrite, File: f, N: 9, Data: make([]byte, 4)})
	m.Do(7, 21, api.Op{Kind: api.OWrite, File: f, N: 8, Data: []byte{0, 0, 1, 0}})
	if r := m.Do(7, 22, api.Op{Kind: api.ORead, File: f, N: 8}); string(r.Data) != "\x00\x00\x01\x00" || len(m.blocks) != 3 {
		t.Fatalf("%+v, %v", r, m.blocks)
	}
	m.Do(7, 23, api.Op{Kind: api.OWrite, File: f, N: 8, Data: make([]byte, 4)})
	m.Do(7, 24, api.Op{Kind: api.OTruncate, Name: "oar"})
	if len(m.blocks) != 0 {
		t.Errorf("%v", m.blocks)
	}
	m.Do(7, 30, api.Op{Kind: api.OTruncate, Name: "oar", N: 4 << 20})
	if r := m.Do(7, 40, api.Op{Kind: api.OCopy, Name: "oar", Other: "peg"}); r.Err != api.OK || r.Entry.Size != 4<<20 || len(m.blocks) != 0 {
		t.Errorf("%+v, %d blocks", r, len(m.blocks))
	}
}

// Behind its end a user keeps nothing of an operation but the result.
func TestP1506NothingIsLeft(t *testing.T) {
	m, _ := NewModel(config)
	c := m.idle()
	u := New(c, nil)
	if u.Invoke(api.Op{Kind: api.OReadAt, Name: "oar"}); u.rest == nil || !u.open {
		t.Fatal("no part is pending")
	}
	u.end(api.Result{N: 3})
	if r, done := u.Done(); u.rest != nil || !done || r.N != 3 {
		t.Errorf("%+v, %v", r, done)
	}
}
