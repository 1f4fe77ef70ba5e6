package msg_test

import (
	"bytes"
	"slices"
	"testing"

	"cairn/api"
	"cairn/msg"
	"cairn/wire"
)

// The bytes of each kind of message, one by one, as the chapter tells them.
func TestP505Bytes(t *testing.T) {
	asks, tells, mends := []byte{1, 4, 0, 2, 9, 1}, []byte{0, 3, 1, 255, 1, 128, 128, 128, 128, 128, 32, 172, 2}, []byte{0, 1, 0, 3, 0, 0}
	block, instance, bucket := []byte{1, 4, 2, 0}, []byte{3, 1, 5, 0}, []byte{2, 1, 0, 0}
	plum := []byte{4, 'p', 'l', 'u', 'm'}
	created := slices.Concat([]byte{1, 4, 9}, plum, []byte{0, 0, 0, 0, 0})
	grown := slices.Concat([]byte{6, 4, 9}, plum, []byte{4, 2, 0, 0, 172, 2})
	replaced := slices.Concat([]byte{7, 4, 9}, plum, []byte{4, 2, 255, 1, 128, 128, 128, 128, 128, 32, 3})
	listed := []byte{4, 4, 9, 0, 0, 0, 0, 0, 0}
	filled := slices.Concat([]byte{172, 2, 2}, []byte{3, 'f', 'i', 'g', 4, 2, 172, 2}, []byte{4, 'f', 'i', 'g', 's', 1, 1, 0}, []byte{5},
		[]byte{1, 1, 1, 0, 4, 2, 172, 2}, []byte{2, 8, 172, 2, 102, 0, 0, 0}, []byte{3, 128, 128, 128, 128, 128, 32, 171, 2, 101, 255, 1, 128, 128, 128, 128, 128, 32, 1},
		[]byte{254, 1, 7, 200, 1, 103, 0, 0, 0}, []byte{255, 1, 7, 200, 1, 104, 2, 2, 0})
	wants := [][]byte{
		slices.Concat([]byte{1}, asks, block),
		slices.Concat([]byte{2}, asks, block, []byte{7, 4, 3, 1, 2, 3}),
		slices.Concat([]byte{3}, asks, instance, []byte{128, 128, 128, 128, 128, 32, 255, 1}),
		slices.Concat([]byte{4}, asks, instance, []byte{1, 1}, replaced),
		slices.Concat([]byte{5}, asks, instance, created),
		slices.Concat([]byte{11}, tells, block, []byte{1, 1, 3, 0, 0, 0}),
		slices.Concat([]byte{11}, tells, block, []byte{0, 0, 3, 0, 0, 0}),
		slices.Concat([]byte{12}, tells, block),
		slices.Concat([]byte{13}, tells, instance, []byte{5, 4, 0, 0, 0}),
		slices.Concat([]byte{13}, tells, instance, []byte{5, 4, 5, 4}, grown),
		slices.Concat([]byte{14}, tells, instance, []byte{6, 1}),
		slices.Concat([]byte{15}, tells, instance, []byte{5, 4}),
		slices.Concat([]byte{16}, tells, instance, listed),
		slices.Concat([]byte{17}, tells, instance, filled),
		slices.Concat([]byte{21}, mends, block, []byte{0, 0}),
		slices.Concat([]byte{21}, mends, bucket, []byte{1, 0}),
		slices.Concat([]byte{22}, mends, block, []byte{7, 4, 3, 9, 0, 255, 0, 0, 0, 0, 0}),
		slices.Concat([]byte{22}, mends, block, []byte{0, 0, 0, 0, 0, 0, 0, 0}),
		slices.Concat([]byte{22}, mends, bucket, []byte{0, 0, 0}, filled, []byte{0, 1}),
		slices.Concat([]byte{22}, mends, bucket, []byte{3, 0, 0, 0, 0, 0, 3}, created, []byte{0}, listed, []byte{0}),
	}
	for i, m := range ordinary() {
		b, e := msg.Encode(m, small)
		if e != api.OK || !bytes.Equal(b, wire.Seal(wants[i])) {
			body, _ := wire.Open(b)
			t.Errorf("%d, %+v: %v, %v; want %v", i, m, body, e, wants[i])
		}
		if y, e := msg.Decode(wire.Seal(wants[i]), small); e != api.OK || !alike(m, y) {
			t.Errorf("%d, %v: %+v, %v; want %+v", i, wants[i], y, e, m)
		}
	}
}

func TestP505Records(t *testing.T) {
	for i, c := range []struct {
		pack func(api.Config) ([]byte, api.Errno)
		want []byte
	}{
		{func(c api.Config) ([]byte, api.Errno) {
			return msg.PackBlock(api.Block{Stamp: stamp(300, 200), Data: []byte{9, 0, 255}}, c)
		}, []byte{172, 2, 200, 1, 3, 9, 0, 255}},
		{func(c api.Config) ([]byte, api.Errno) {
			return msg.PackInstance(api.Instance{Promised: stamp(300, 200), Accepted: stamp(7, 1), Command: replace}, c)
		}, []byte{172, 2, 200, 1, 7, 1, 7, 4, 9, 4, 'p', 'l', 'u', 'm', 4, 2, 255, 1, 128, 128, 128, 128, 128, 32, 3, 0}},
		{func(c api.Config) ([]byte, api.Errno) {
			return msg.PackInstance(api.Instance{Command: remove, Decided: true}, c)
		}, []byte{0, 0, 0, 0, 2, 1, 1, 1, 'a', 0, 0, 0, 0, 0, 1}},
		{func(c api.Config) ([]byte, api.Errno) {
			return msg.PackInstance(api.Instance{Promised: stamp(1, 2)}, c)
		}, []byte{1, 2, 0, 0, 0, 0}},
		{func(c api.Config) ([]byte, api.Errno) {
			return msg.PackBucket(api.Bucket{Upto: 2, Entries: []api.Entry{{Name: "fig", File: file(1, 5), Size: 300}}, Lasts: []api.Last{{Client: 2, Op: 8, Instance: 1, Err: api.ErrNotFound}}}, c)
		}, []byte{2, 1, 3, 'f', 'i', 'g', 1, 5, 172, 2, 1, 2, 8, 1, 102, 0, 0, 0}},
		{func(c api.Config) ([]byte, api.Errno) { return msg.PackBucket(api.Bucket{Upto: 1 << 20}, c) }, []byte{128, 128, 64, 0, 0}},
	} {
		if b, e := c.pack(small); e != api.OK || !bytes.Equal(b, wire.Seal(c.want)) {
			body, _ := wire.Open(b)
			t.Errorf("%d: %v, %v; want %v", i, body, e, c.want)
		}
	}
}

func TestP505Refused(t *testing.T) {
	wrong := full()
	wrong.Upto = 299
	if b, e := msg.PackBucket(wrong, small); e != api.ErrArg || len(b) != 0 {
		t.Errorf("PackBucket: %v, %v", b, e)
	}
	if b, e := msg.PackBlock(api.Block{Stamp: stamp(1, 1), Data: []byte{1}}, small); e != api.ErrArg || len(b) != 0 {
		t.Errorf("PackBlock: %v, %v", b, e)
	}
	if b, e := msg.PackInstance(api.Instance{Decided: true}, small); e != api.ErrArg || len(b) != 0 {
		t.Errorf("PackInstance: %v, %v", b, e)
	}
	if b, e := msg.Encode(api.Msg{Kind: api.MQuery}, small); e != api.ErrMsg || len(b) != 0 {
		t.Errorf("Encode: %v, %v", b, e)
	}
}

// mustOpen: Open's error of bytes that are no sealed body is the call's.
func (r record[T]) mustOpen(t *testing.T, b []byte) {
	t.Helper()
	var none T
	_, want := wire.Open(b)
	if x, e := r.read(b, small); want == api.OK || e != want || !alike(x, none) {
		t.Fatalf("%v: %+v, %v; Open tells %v", b, x, e, want)
	}
}

func (r record[T]) mustOpenAll(t *testing.T, x T) {
	t.Helper()
	b, _ := r.pack(x, small)
	for end := range b {
		r.mustOpen(t, b[:end])
	}
	for at := range b {
		for bit := range 8 {
			turned := bytes.Clone(b)
			turned[at] ^= 1 << bit
			r.mustOpen(t, turned)
		}
	}
	r.mustOpen(t, append(bytes.Clone(b), 0))
	r.mustOpen(t, append(bytes.Clone(b), b...))
	tooLong := []byte{1, 0, 2, 0}
	sum := wire.Sum(tooLong)
	r.mustOpen(t, append(tooLong, byte(sum), byte(sum>>8), byte(sum>>16), byte(sum>>24)))
}

func TestP506OpensError(t *testing.T) {
	for _, m := range ordinary() {
		messages.mustOpenAll(t, m)
	}
	blocks.mustOpenAll(t, api.Block{Stamp: stamp(7, 4), Data: []byte{1, 2, 3}})
	instances.mustOpenAll(t, api.Instance{Promised: stamp(7, 4), Accepted: stamp(7, 4), Command: replace})
	buckets.mustOpenAll(t, full())
}

// mustBodies: of a right body each front, each byte put otherwise, and each byte more or less is refused, or is the one form of something else.
func (r record[T]) mustBodies(t *testing.T, x T, c api.Config) {
	t.Helper()
	body := r.body(x)
	for end := range body {
		r.mustTurn(t, body[:end], c)
	}
	for more := range 256 {
		r.mustRefuse(t, append(bytes.Clone(body), byte(more)), c, "a byte more")
	}
	for at := range body {
		for b := range 256 {
			turned := bytes.Clone(body)
			turned[at] = byte(b)
			r.mustTurn(t, turned, c)
			r.mustTurn(t, slices.Insert(bytes.Clone(body), at, byte(b)), c)
		}
		r.mustTurn(t, slices.Delete(bytes.Clone(body), at, at+1), c)
	}
}

func TestP506Bodies(t *testing.T) {
	for _, m := range ordinary() {
		messages.mustBodies(t, m, small)
		messages.mustRefuse(t, msgBody(m)[:len(msgBody(m))-1], small, "a byte less")
	}
	for _, x := range []api.Block{{Data: []byte{0, 0, 0}}, {Stamp: stamp(300, 4), Data: []byte{1, 2, 3}}} {
		blocks.mustBodies(t, x, small)
	}
	for _, x := range []api.Instance{{}, {Promised: stamp(300, 4)}, {Promised: stamp(7, 4), Accepted: stamp(7, 4), Command: replace}, {Command: create, Decided: true}} {
		instances.mustBodies(t, x, small)
	}
	for _, x := range []api.Bucket{{}, {Upto: 300}, full()} {
		buckets.mustBodies(t, x, small)
	}
}

// All short bodies there are, of few bytes.
func TestP506Short(t *testing.T) {
	taken := [3]int{}
	var extend func(body []byte, left int)
	extend = func(body []byte, left int) {
		messages.mustRefuse(t, body, small, "short")
		for i, is := range []bool{blocks.mustTurn(t, body, small), instances.mustTurn(t, body, small), buckets.mustTurn(t, body, small)} {
			if is {
				taken[i]++
			}
		}
		if left > 0 {
			for _, b := range []byte{0, 1, 2, 3, 128} {
				extend(append(bytes.Clone(body), b), left-1)
			}
		}
	}
	extend(nil, 6)
	if taken[0] == 0 || taken[1] == 0 || taken[2] == 0 {
		t.Errorf("so many of them are blocks, instances, buckets: %v", taken)
	}
}

// stretched tells the bytes with a byte more for the number that begins at a place, or goes on there: it says the same.
func stretched(body []byte, at int) []byte {
	for at < len(body)-1 && body[at] > 127 {
		at++
	}
	l := bytes.Clone(body)
	l[at] |= 128
	return slices.Insert(l, at+1, 0)
}

// mustStretch: where the place is within a text or a block, what is read must be what these bytes say, and no number's other form.
func (r record[T]) mustStretch(t *testing.T, x T) {
	t.Helper()
	body := r.body(x)
	for at := range body {
		r.mustTurn(t, stretched(body, at), small)
	}
}

// A number in more bytes than it needs, at each place of a body.
func TestP506NotTheShortest(t *testing.T) {
	for _, m := range ordinary() {
		messages.mustStretch(t, m)
		body := msgBody(m)
		for at, numbers := 0, 0; numbers < 11; at, numbers = at+1, numbers+1 {
			messages.mustRefuse(t, stretched(body, at), small, "a longer number")
			for body[at] > 127 {
				at++
			}
		}
	}
	block, instance := api.Block{Stamp: stamp(7, 4), Data: []byte{1, 2, 3}}, api.Instance{Promised: stamp(7, 4), Accepted: stamp(7, 4), Command: replace}
	blocks.mustStretch(t, block)
	instances.mustStretch(t, instance)
	buckets.mustStretch(t, full())
	for at := range 3 {
		blocks.mustRefuse(t, stretched(blockBody(block), at), small, "a longer number")
		buckets.mustRefuse(t, stretched(bucketBody(api.Bucket{}), at), small, "a longer number")
	}
	for at := range 6 {
		instances.mustRefuse(t, stretched(instanceBody(api.Instance{}), at), small, "a longer number")
	}
}

// Flags that are neither 0 nor 1 stand for nothing.
func TestP506Flags(t *testing.T) {
	for _, flag := range []int{2, 3, 127, 128, 255, 256, 1 << 40, 1<<63 - 1} {
		k := body(1, 4, 2, 0)
		messages.mustRefuse(t, slices.Concat(body(1, flag, 4, 0, 2, 9, 1), k), small, "From")
		messages.mustRefuse(t, slices.Concat(body(1, 1, 4, flag, 2, 9, 1), k), small, "To")
		messages.mustRefuse(t, slices.Concat(body(12, flag, 2, 1, 4, 9, 1), k), small, "From")
		messages.mustRefuse(t, slices.Concat(body(12, 0, 2, flag, 4, 9, 1), k), small, "To")
		messages.mustRefuse(t, slices.Concat(body(21, 0, 2, flag, 1, 0, 0), k, body(0, 0)), small, "To")
		messages.mustRefuse(t, slices.Concat(body(22, 0, 2, 0, 1, 0, 0, 2, 1, 0, 0), body(0, 0, 0), body(1, 0, 0), body(0, flag)), small, "More")
		messages.mustRefuse(t, slices.Concat(body(22, 0, 2, 0, 1, 0, 0), k, body(0, 0, 0), body(0, 0, 0), body(0, flag)), small, "More")
		instances.mustRefuse(t, body(stamp(0, 0), stamp(0, 0), create, flag), small, "Decided")
		instances.mustRefuse(t, body(stamp(0, 0), stamp(0, 0), api.Command{}, flag), small, "Decided")
	}
}

// Counts that say more, or less, than there is.
func TestP506Counts(t *testing.T) {
	entry, last := body("fig", aFile, 1), body(1, 1, 1, 0, aFile, 1)
	for _, n := range []int{0, 2, 3, 127, 128, 255, 256, 257, 258, 1 << 20, 1 << 40, 1<<63 - 1} {
		buckets.mustRefuse(t, slices.Concat(body(1, n), entry, body(0)), small, "entries")
		buckets.mustRefuse(t, slices.Concat(body(1, n), entry, body(1), last), small, "entries")
		buckets.mustRefuse(t, slices.Concat(body(1, 0, n), last), small, "lasts")
		buckets.mustRefuse(t, slices.Concat(body(1, 1), entry, body(n), last), small, "lasts")
		have := body(22, 0, 2, 0, 1, 0, 0, 2, 1, 0, 0, 3, 0, 0, 0, 0, 0)
		messages.mustRefuse(t, slices.Concat(have, body(n, create, 0)), small, "commands")
		put := body(2, 1, 4, 0, 2, 9, 1, 1, 4, 2, 0, 7, 4)
		messages.mustRefuse(t, slices.Concat(put, body(n), []byte{1}), small, "the bytes of a block")
		blocks.mustRefuse(t, slices.Concat(body(7, 4, n), []byte{1}), small, "the bytes of a block")
	}
}

// Lists that are longer than any may be, whole in the bytes.
func TestP506TooMany(t *testing.T) {
	for _, n := range []int{257, 258, 300, 1000} {
		buckets.mustRefuse(t, body(api.Bucket{Upto: 1, Entries: entries(n)}), great, "entries")
		buckets.mustRefuse(t, body(api.Bucket{Upto: 1, Lasts: lasts(n)}), great, "lasts")
	}
	for _, n := range []int{65, 66, 300} {
		have := body(22, 0, 1, 0, 9, 0, 0, 2, 1, 0, 0, 3, 0, 0, 0, 0, 0)
		messages.mustRefuse(t, slices.Concat(have, body(make([]api.Command, n), 0)), great, "commands")
		messages.mustRefuse(t, slices.Concat(have, body(slices.Repeat([]api.Command{create}, n), 0)), great, "commands")
	}
	buckets.must(t, api.Bucket{Upto: 1, Entries: entries(256), Lasts: lasts(255)}, great)
}

// As many as may be, with a count that says more.
func TestP506TooManySaid(t *testing.T) {
	whole := bucketBody(api.Bucket{Upto: 1, Entries: entries(256)})
	entryBytes := whole[len(body(1, 256)) : len(whole)-1]
	whole = bucketBody(api.Bucket{Upto: 1, Lasts: lasts(255)})
	lastBytes := whole[len(body(1, 0, 255)):]
	row := body(slices.Repeat([]api.Command{create}, 64))[1:]
	have := body(22, 0, 1, 0, 9, 0, 0, 2, 1, 0, 0, 3, 0, 0, 0, 0, 0)
	for _, more := range []int{0, 1, 2, 3, 1 << 20, 1 << 62} {
		bucket := slices.Concat(body(1, 256+more), entryBytes, body(255+more), lastBytes)
		onlyEntries := slices.Concat(body(1, 256+more), entryBytes, body(0))
		onlyLasts := slices.Concat(body(1, 0, 255+more), lastBytes)
		commands := slices.Concat(have, body(64+more), row, body(0))
		if more == 0 {
			if !buckets.mustTurn(t, bucket, great) || !buckets.mustTurn(t, onlyEntries, great) || !buckets.mustTurn(t, onlyLasts, great) || !messages.mustTurn(t, commands, great) {
				t.Error("as many as may be are refused")
			}
			continue
		}
		buckets.mustRefuse(t, bucket, great, "entries and lasts")
		buckets.mustRefuse(t, onlyEntries, great, "entries")
		buckets.mustRefuse(t, onlyLasts, great, "lasts")
		messages.mustRefuse(t, commands, great, "commands")
	}
}

// A wrong thing's bytes, well formed, are none of a right one.
func TestP506WrongThings(t *testing.T) {
	for _, base := range ordinary() {
		for _, ch := range changes() {
			m := base
			ch.put(&m)
			negative := m.Kind < 0 || m.From.Id < 0 || m.To.Id < 0 || m.Op < 0 || m.Round < 0 || m.Key.A < 0 || m.Key.C < 0 || m.Stamp.N < 0 || m.Stamp.Client < 0 || m.Held.N < 0 || m.Held.Client < 0 || m.Bucket.Upto < 0
			if !negative {
				messages.mustTurn(t, msgBody(m), small)
			}
		}
	}
	for _, n := range []int{0, 1, 2, 4, 5} {
		blocks.mustRefuse(t, body(stamp(7, 4), make([]byte, n)), small, "a block of other bytes")
	}
	blocks.mustRefuse(t, body(stamp(7, 0), make([]byte, 3)), small, "a block with no stamp")
	blocks.mustRefuse(t, body(stamp(0, 0), []byte{0, 1, 0}), small, "a block with no stamp, not zeros")
	instances.mustRefuse(t, body(stamp(5, 4), stamp(5, 5), create, 0), small, "Accepted above Promised")
	buckets.mustRefuse(t, body(0, 1, "fig", aFile, 1, 0), small, "an entry in the bucket behind no instance")
	instances.mustRefuse(t, body(stamp(5, 4), stamp(5, 4), 8, 4, 9, "plum", file(0, 0), file(0, 0), 0, 0), small, "no kind of command")
	instances.mustRefuse(t, body(stamp(5, 4), stamp(0, 0), 0, 0, 0, "", file(0, 0), file(0, 0), 0, 0), small, "the zero Command in full")
}

// What another configuration takes, this one may not.
func TestP506OtherConfiguration(t *testing.T) {
	put := ordinary()[1]
	b, _ := msg.Encode(put, small)
	for i, change := range []func(*api.Config){
		func(c *api.Config) { c.Block = 4 }, func(c *api.Config) { c.Block = 2 }, func(c *api.Config) { c.Servers = []int{1, 3, 4} },
	} {
		c := small
		change(&c)
		if m, e := msg.Decode(b, c); e != api.ErrMsg || !alike(m, api.Msg{}) {
			t.Errorf("%d: %+v, %v", i, m, e)
		}
	}
	b, _ = msg.PackBucket(full(), small)
	if x, e := msg.ReadBucket(b, least); e != api.ErrForm || !alike(x, api.Bucket{}) {
		t.Errorf("two entries where there is room for one: %+v, %v", x, e)
	}
}

// Unlike messages have unlike bytes, and so have records.
func TestP507Unlike(t *testing.T) {
	seen := map[string]api.Msg{}
	all := changes()
	for _, base := range ordinary() {
		for _, ch := range all {
			m := base
			ch.put(&m)
			b, e := msg.Encode(m, small)
			if e != api.OK {
				continue
			}
			if n, is := seen[string(b)]; is && !alike(m, n) {
				t.Errorf("%+v and %+v are both %v", m, n, b)
			}
			seen[string(b)] = m
		}
	}
	if len(seen) < 100 {
		t.Errorf("only %d messages", len(seen))
	}
}

// mustUnlike: what may be of these, each unlike the others, has bytes unlike theirs.
func (r record[T]) mustUnlike(t *testing.T, all []T, least int) {
	t.Helper()
	seen := map[string]T{}
	for _, x := range all {
		b, e := r.pack(x, small)
		if e != api.OK {
			continue
		}
		if y, is := seen[string(b)]; is && !alike(x, y) {
			t.Fatalf("%+v and %+v are both %v", x, y, b)
		}
		seen[string(b)] = x
	}
	if len(seen) < least {
		t.Fatalf("only %d of %d may be", len(seen), len(all))
	}
}

func TestP507UnlikeRecords(t *testing.T) {
	var blockList []api.Block
	var instanceList []api.Instance
	var bucketList []api.Bucket
	for _, s := range stamps {
		for _, data := range [][]byte{{0, 0, 0}, {0, 0, 1}, {0, 1, 0}, {1, 0, 0}, {3, 3, 3}} {
			blockList = append(blockList, api.Block{Stamp: s, Data: data})
		}
		for _, accepted := range stamps {
			for _, x := range someCommands() {
				instanceList = append(instanceList, api.Instance{Promised: s, Accepted: accepted, Command: x}, api.Instance{Promised: s, Accepted: accepted, Command: x, Decided: true})
			}
		}
	}
	for upto := range 4 {
		for n := range 3 {
			for k := range 3 {
				bucketList = append(bucketList, api.Bucket{Upto: upto, Entries: entries(n), Lasts: lasts(k)}, api.Bucket{Upto: upto, Entries: full().Entries[:n], Lasts: full().Lasts[2 : 2+k]})
			}
		}
	}
	blocks.mustUnlike(t, blockList, 30)
	instances.mustUnlike(t, instanceList, 100)
	buckets.mustUnlike(t, bucketList, 30)
}

func FuzzP507(f *testing.F) {
	for _, m := range ordinary() {
		f.Add(msgBody(m))
	}
	f.Add(blockBody(api.Block{Data: make([]byte, 3)}))
	f.Add(instanceBody(api.Instance{Promised: stamp(7, 4), Accepted: stamp(7, 4), Command: replace}))
	f.Add(bucketBody(full()))
	f.Fuzz(func(t *testing.T, body []byte) {
		if len(body) > api.MaxBytes {
			return
		}
		messages.mustTurn(t, body, small)
		blocks.mustTurn(t, body, small)
		instances.mustTurn(t, body, small)
		buckets.mustTurn(t, body, small)
	})
}
