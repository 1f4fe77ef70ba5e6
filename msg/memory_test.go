package msg_test

import (
	"bytes"
	"slices"
	"testing"

	"cairn/api"
	"cairn/msg"
	"cairn/wire"
)

// roomy has the same items, with others in its spare room.
func roomy[T any](list []T, spare T) []T {
	room := append(slices.Clone(list), spare, spare, spare)
	return room[:len(list)]
}

// spoil fills a list, its spare room too.
func spoil[T any](list []T, with T) {
	list = list[:cap(list)]
	for i := range list {
		list[i] = with
	}
}

var (
	oddEntry   = api.Entry{Name: "spoiled", File: file(77, 77), Size: 77}
	oddLast    = api.Last{Client: 77, Op: 77, Instance: 77, Err: 77, File: file(77, 77), Size: 77}
	oddCommand = api.Command{Kind: 77, Client: 77, Op: 77, Name: "spoiled", File: file(77, 77), New: file(77, 77), Size: 77}
)

func roomyMsg(m api.Msg) api.Msg {
	m.Block, m.Commands, m.Bucket = roomy(m.Block, 77), roomy(m.Commands, oddCommand), roomyBucket(m.Bucket)
	return m
}

func roomyBucket(b api.Bucket) api.Bucket {
	b.Entries, b.Lasts = roomy(b.Entries, oddEntry), roomy(b.Lasts, oddLast)
	return b
}

func spoilMsg(m api.Msg) {
	spoil(m.Block, 78)
	spoil(m.Commands, api.Command{})
	spoilBucket(m.Bucket)
}

func spoilBucket(b api.Bucket) {
	spoil(b.Entries, api.Entry{})
	spoil(b.Lasts, api.Last{})
}

// whole tells a message with all its lists up to the ends of their room.
func whole(m api.Msg) api.Msg {
	m.Block, m.Commands, m.Bucket = bytes.Clone(m.Block[:cap(m.Block)]), slices.Clone(m.Commands[:cap(m.Commands)]), wholeBucket(m.Bucket)
	return m
}

func wholeBucket(b api.Bucket) api.Bucket {
	b.Entries, b.Lasts = slices.Clone(b.Entries[:cap(b.Entries)]), slices.Clone(b.Lasts[:cap(b.Lasts)])
	return b
}

// roomyConfig is the small one, with spare room behind its servers.
func roomyConfig() api.Config {
	c := small
	c.Servers = roomy([]int{3, 1, 2}, 77)
	return c
}

func mustKeepConfig(t *testing.T, c api.Config) {
	t.Helper()
	if all := c.Servers[:cap(c.Servers)]; !slices.Equal(all[:6], []int{3, 1, 2, 77, 77, 77}) {
		t.Errorf("the configuration's servers are %v now", all)
	}
}

func TestP2MessagesHandedIn(t *testing.T) {
	for _, base := range ordinary() {
		for _, kind := range []int{base.Kind, 0} { // the right one, and one that is refused
			c, m := roomyConfig(), roomyMsg(base)
			m.Kind = kind
			before := whole(m)
			msg.Valid(m, c)
			b, _ := msg.Encode(m, c)
			if !alike(whole(m), before) {
				t.Errorf("%+v: changed to %+v", before, whole(m))
			}
			mustKeepConfig(t, c)
			kept := bytes.Clone(b)
			spoilMsg(m)
			spoil(c.Servers, 0)
			if !bytes.Equal(b, kept) {
				t.Errorf("%+v: its bytes hang on what was handed in", base)
			}
			spoil(b, 0xee)
			if again, _ := msg.Encode(base, small); kind != 0 && !bytes.Equal(again, kept) {
				t.Errorf("%+v: another answer than before", base)
			}
		}
	}
}

func TestP2MessagesAnswered(t *testing.T) {
	for _, m := range ordinary() {
		c := roomyConfig()
		b, _ := msg.Encode(m, small)
		b = roomy(b, 77)
		before := bytes.Clone(b[:cap(b)])
		x, _ := msg.Decode(b, c)
		y, _ := msg.Decode(b, c)
		if !bytes.Equal(b[:cap(b)], before) {
			t.Errorf("%+v: its bytes were changed", m)
		}
		mustKeepConfig(t, c)
		spoil(b, 0xee)
		spoil(c.Servers, 0)
		if !alike(x, m) {
			t.Errorf("%+v: the answer hangs on what was handed in", m)
		}
		spoilMsg(x)
		if !alike(y, m) {
			t.Errorf("%+v: two answers share memory", m)
		}
		sealed, _ := msg.Encode(m, small)
		if z, _ := msg.Decode(sealed, small); !alike(z, m) {
			t.Errorf("%+v: something is kept from call to call", m)
		}
	}
}

// No two lists of one answer share memory.
func TestP2ListsOfOneAnswer(t *testing.T) {
	b, _ := msg.PackBucket(full(), small)
	x, _ := msg.ReadBucket(b, small)
	spoil(x.Entries, oddEntry)
	if !slices.Equal(x.Lasts, full().Lasts) {
		t.Errorf("Lasts: %v", x.Lasts)
	}
	x, _ = msg.ReadBucket(b, small)
	spoil(x.Lasts, oddLast)
	if !slices.Equal(x.Entries, full().Entries) {
		t.Errorf("Entries: %v", x.Entries)
	}
}

func TestP2Records(t *testing.T) {
	c := roomyConfig()
	block, bucket := api.Block{Stamp: stamp(7, 4), Data: roomy([]byte{1, 2, 3}, 77)}, roomyBucket(full())
	beforeBucket := wholeBucket(bucket)
	msg.Bucket(bucket, c)
	packedBlock, _ := msg.PackBlock(block, c)
	packedBucket, _ := msg.PackBucket(bucket, c)
	if all := block.Data[:cap(block.Data)]; !bytes.Equal(all[:6], []byte{1, 2, 3, 77, 77, 77}) || !alike(wholeBucket(bucket), beforeBucket) {
		t.Errorf("changed: %v, %+v", all, wholeBucket(bucket))
	}
	mustKeepConfig(t, c)
	spoil(block.Data, 0)
	spoilBucket(bucket)
	if !bytes.Equal(packedBlock, wire.Seal(body(stamp(7, 4), []byte{1, 2, 3}))) || !bytes.Equal(packedBucket, wire.Seal(bucketBody(full()))) {
		t.Errorf("the bytes hang on what was handed in: %v, %v", packedBlock, packedBucket)
	}
	readBlock, _ := msg.ReadBlock(packedBlock, c)
	readBucket, _ := msg.ReadBucket(packedBucket, c)
	otherBlock, _ := msg.ReadBlock(packedBlock, c)
	otherBucket, _ := msg.ReadBucket(packedBucket, c)
	spoil(packedBlock, 0xee)
	spoil(packedBucket, 0xee)
	spoil(otherBlock.Data, 0xee)
	spoilBucket(otherBucket)
	if !alike(readBlock, api.Block{Stamp: stamp(7, 4), Data: []byte{1, 2, 3}}) || !alike(readBucket, full()) {
		t.Errorf("the records share memory: %+v, %+v", readBlock, readBucket)
	}
}

// No list and an empty one are the same, handed in.
func TestP2NoListAndAnEmptyOne(t *testing.T) {
	for _, m := range ordinary() {
		x, y := nils(m), m
		if len(y.Block) == 0 {
			y.Block = []byte{}
		}
		if len(y.Commands) == 0 {
			y.Commands = []api.Command{}
		}
		if len(y.Bucket.Entries) == 0 {
			y.Bucket.Entries = []api.Entry{}
		}
		if len(y.Bucket.Lasts) == 0 {
			y.Bucket.Lasts = []api.Last{}
		}
		a, e := msg.Encode(x, small)
		b, f := msg.Encode(y, small)
		if e != api.OK || f != api.OK || !bytes.Equal(a, b) || msg.Valid(x, small) != api.OK || msg.Valid(y, small) != api.OK {
			t.Errorf("%+v: %v, with empty lists %v", m, e, f)
		}
	}
}

// The same calls answer the same, whatever was asked, and refused, between them.
func TestP3TheSameAgain(t *testing.T) {
	all := ordinary()
	for i, m := range all {
		b, e := msg.Encode(m, small)
		other, _ := msg.Encode(all[(i+7)%len(all)], small)
		msg.Decode(other, small)
		msg.Decode(other[:9], small)
		msg.Encode(m, great)
		msg.Valid(m, api.Config{})
		if x, f := msg.Encode(m, small); f != e || !bytes.Equal(x, b) {
			t.Errorf("%+v: %v, then %v, %v", m, b, x, f)
		}
		if x, f := msg.Decode(b, small); f != api.OK || !alike(x, m) {
			t.Errorf("%+v: read as %+v, %v", m, x, f)
		}
	}
}
