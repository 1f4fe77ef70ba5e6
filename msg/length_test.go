package msg_test

import (
	"fmt"
	"strings"
	"testing"

	"cairn/api"
	"cairn/msg"
)

// The longest there is of each, with every number at its end.

func longestCommand(c api.Config) api.Command {
	return api.Command{Kind: api.CReplace, Client: 255, Op: 1 << 40, Name: long, File: file(255, 1<<40), New: file(255, 1<<40), Size: 1 << 20 * c.Block}
}

func longestBlock(c api.Config) api.Block {
	return api.Block{Stamp: stamp(1<<40, 255), Data: []byte(strings.Repeat("\xff", c.Block))}
}

func longestInstance(c api.Config) api.Instance {
	return api.Instance{Promised: stamp(1<<40, 255), Accepted: stamp(1<<40, 255), Command: longestCommand(c)}
}

func longestBucket(c api.Config) api.Bucket {
	b := api.Bucket{Upto: 1 << 20}
	for i := range c.Room {
		b.Entries = append(b.Entries, api.Entry{Name: fmt.Sprintf("%s%03d", long[3:], i), File: file(255, 1<<40), Size: 1 << 20 * c.Block})
	}
	for id := range 255 {
		b.Lasts = append(b.Lasts, api.Last{Client: id + 1, Op: 1 << 40, Instance: 1 << 20, Err: api.ErrStale, File: file(255, 1<<40), Size: 1 << 20 * c.Block})
	}
	return b
}

func longestMessages(c api.Config) []api.Msg {
	from, to := server(c.Servers[0]), server(c.Servers[1])
	asks := api.Msg{From: client(255), To: from, Op: 1 << 40, Round: 1 << 40, Key: instanceKey(c.Buckets-1, 1<<20)}
	put, accept, promise, trimmed := asks, asks, asks, asks
	put.Kind, put.Key, put.Stamp, put.Block = api.MPut, blockKey(255, 1<<40, 1<<20-1), stamp(1<<40, 255), longestBlock(c).Data
	accept.Kind, accept.Stamp, accept.Command = api.MAccept, stamp(1<<40, 255), longestCommand(c)
	promise.Kind, promise.From, promise.To, promise.Stamp, promise.Held, promise.Command = api.MPromise, from, client(255), stamp(1<<40, 255), stamp(1<<40, 255), longestCommand(c)
	trimmed.Kind, trimmed.From, trimmed.To, trimmed.Bucket = api.MBucket, from, client(255), longestBucket(c)
	row := api.Msg{Kind: api.MHave, From: from, To: to, Key: bucketKey(c.Buckets - 1), Stamp: stamp(1<<20+1-64, 0), More: true}
	for range 64 {
		row.Commands = append(row.Commands, longestCommand(c))
	}
	told := api.Msg{Kind: api.MHave, From: from, To: to, Key: bucketKey(c.Buckets - 1), Bucket: longestBucket(c), More: true}
	return []api.Msg{put, accept, promise, trimmed, row, told}
}

func mustLength(t *testing.T, what string, b []byte, e api.Errno, least, most int) {
	t.Helper()
	if e != api.OK || len(b) < least || len(b) > most {
		t.Errorf("%s: %d bytes, %v; want %d to %d", what, len(b), e, least, most)
	}
}

// sized are configurations of the blocks and rooms at which a number takes a byte more, and of those around them.
func sized() []api.Config {
	var l []api.Config
	for _, n := range []int{1, 2, 63, 126, 127, 128, 129, 255, 256} {
		l = append(l, api.Config{Servers: []int{254, 255}, Points: 1, Buckets: 256, Block: n, Room: n}, api.Config{Servers: []int{254, 255}, Points: 1, Buckets: 256, Block: 16 * n, Room: 257 - n})
	}
	return append(l, great)
}

func TestP508Lengths(t *testing.T) {
	for _, c := range sized() {
		what := fmt.Sprintf("Block %d, Room %d", c.Block, c.Room)
		b, e := msg.PackBlock(longestBlock(c), c)
		mustLength(t, what+", a block", b, e, c.Block+21, c.Block+22)
		b, e = msg.PackInstance(longestInstance(c), c)
		mustLength(t, what+", an instance", b, e, 314, 316)
		b, e = msg.PackInstance(api.Instance{Command: longestCommand(c), Decided: true}, c)
		mustLength(t, what+", a decided instance", b, e, 300, 304)
		b, e = msg.PackBucket(longestBucket(c), c)
		mustLength(t, what+", a bucket", b, e, 1, 270*c.Room+6394)
		blocks.must(t, longestBlock(c), c)
		instances.must(t, longestInstance(c), c)
		buckets.must(t, longestBucket(c), c)
		for _, m := range longestMessages(c) {
			b, e := msg.Encode(m, c)
			mustLength(t, fmt.Sprintf("%s, a message of kind %d", what, m.Kind), b, e, 50, api.MaxBytes+12)
			mustMsg(t, m, c)
		}
	}
}

// With the greatest configuration the lengths are reached: no lesser ones would do. (But a bucket's only if each client's id had two bytes; 127 ids have one.)
func TestP508Reached(t *testing.T) {
	b, e := msg.PackBlock(longestBlock(great), great)
	mustLength(t, "a block", b, e, 4096+22, 4096+22)
	b, e = msg.PackInstance(longestInstance(great), great)
	mustLength(t, "an instance", b, e, 316, 316)
	b, e = msg.PackBucket(longestBucket(great), great)
	mustLength(t, "a bucket", b, e, 270*256+6394-127, 270*256+6394-127)
}
