package audit_test

import (
	"bytes"
	"fmt"
	"maps"
	"slices"
	"strings"
	"testing"

	"cairn/api"
	"cairn/audit"
	"cairn/bucket"
	"cairn/disk"
	"cairn/msg"
	"cairn/ring"
	"cairn/server"
	"cairn/stable"
)

// These stand here to be compiled: the faces have these types.
var (
	_ func(c api.Config, images []api.Image, workers int) ([]api.Fault, api.Errno)         = audit.Run
	_ func(c api.Config, images []api.Image, k api.Key) (api.Block, api.Bucket, api.Errno) = audit.Newest
)

// three is the configuration of the chapter's examples.
func three() api.Config {
	return api.Config{Servers: []int{1, 2, 3}, F: 1, Points: 1, Buckets: 2, Block: 3, Room: 2}
}

// alone has groups of one server.
func alone() api.Config {
	return api.Config{Servers: []int{9, 4}, Points: 2, Buckets: 3, Block: 1, Room: 1}
}

// wide has servers that stand in one group and not in another.
func wide() api.Config {
	return api.Config{Servers: []int{5, 40, 3, 255, 1}, F: 1, Points: 3, Buckets: 3, Block: 2, Room: 3}
}

func five() api.Config {
	return api.Config{Servers: []int{11, 12, 13, 14, 15}, F: 2, Points: 1, Buckets: 2, Block: 2, Room: 2}
}

func seven() api.Config {
	return api.Config{Servers: []int{7, 6, 5, 4, 3, 2, 1}, F: 3, Points: 1, Buckets: 1, Block: 1, Room: 2}
}

func configs() []api.Config { return []api.Config{three(), alone(), wide(), five(), seven()} }

// The keys.
func blockAt(index int) api.Key           { return api.Key{Kind: api.KBlock, A: 4, B: 2, C: index} }
func dir(number int) api.Key              { return api.Key{Kind: api.KBucket, A: number} }
func at(number, n int) api.Key            { return api.Key{Kind: api.KInstance, A: number, B: n} }
func fault(kind int, k api.Key) api.Fault { return api.Fault{Kind: kind, Key: k} }

// groupOf are the servers of a key's group; of one that is not right there are none.
func groupOf(c api.Config, k api.Key) []int {
	r, err := ring.New(c)
	if err != api.OK {
		panic(err)
	}
	group, _ := r.Group(k)
	return group
}

// The commands.
func create(client, op int, name string) api.Command {
	return api.Command{Kind: api.CCreate, Client: client, Op: op, Name: name}
}

func remove(client, op int, name string) api.Command {
	return api.Command{Kind: api.CRemove, Client: client, Op: op, Name: name}
}

func x() api.Command { return create(4, 1, "plum") }
func y() api.Command { return remove(5, 1, "plum") }
func z() api.Command { return create(6, 1, "oar") }

// What is held.
func stamp(n, client int) api.Stamp { return api.Stamp{N: n, Client: client} }

func written(n, client int, data ...byte) api.Block {
	return api.Block{Stamp: stamp(n, client), Data: data}
}

func zeros(c api.Config) api.Block { return api.Block{Data: make([]byte, c.Block)} }

func promised(n, client int) api.Instance { return api.Instance{Promised: stamp(n, client)} }

func accepted(n, client int, w api.Command) api.Instance {
	return api.Instance{Promised: stamp(n, client), Accepted: stamp(n, client), Command: w}
}

// outbid has accepted at one ballot, and promised a greater one since.
func outbid(n, client int, w api.Command) api.Instance {
	i := accepted(n, client, w)
	i.Promised = stamp(n+5, client)
	return i
}

func decided(w api.Command) api.Instance { return api.Instance{Command: w, Decided: true} }

// made is the bucket behind commands, from the empty one on.
func made(c api.Config, l ...api.Command) api.Bucket { return madeFrom(c, api.Bucket{}, l...) }

func madeFrom(c api.Config, b api.Bucket, l ...api.Command) api.Bucket {
	next, _, err := bucket.Replay(b, c.Room, l...)
	if err != api.OK {
		panic(err)
	}
	return next
}

// records are what lies on a disk; an api.Block, api.Bucket or api.Instance under a key, or the bytes themselves.
type records map[api.Key]any

// packed is a thing as bytes, whichever key it is laid under.
func packed(c api.Config, what any) []byte {
	var b []byte
	var err api.Errno
	switch w := what.(type) {
	case api.Block:
		b, err = msg.PackBlock(w, c)
	case api.Bucket:
		b, err = msg.PackBucket(w, c)
	case api.Instance:
		b, err = msg.PackInstance(w, c)
	case []byte:
		b = w
	default:
		panic(fmt.Sprintf("%T is nothing that lies on a disk", what))
	}
	if err != api.OK {
		panic(fmt.Sprintf("%+v: %v", what, err))
	}
	return b
}

// image is a server's disk with these records, laid down by a Store.
func image(c api.Config, id int, l records) api.Image {
	sectors := 1
	for k := range l {
		sectors += stable.Width(k.Kind, server.Most(c))
	}
	d, err := disk.New(sectors)
	if err != api.OK {
		panic(err)
	}
	put(c, d, l)
	return api.Image{Server: id, Data: d.Image()}
}

// put lays records on a disk.
func put(c api.Config, d *disk.Disk, l records) {
	s, err := stable.Open(d, server.Most(c))
	if err != api.OK {
		panic(err)
	}
	for _, k := range slices.SortedFunc(maps.Keys(l), byKey) {
		if err := s.Put(k, packed(c, l[k])); err != api.OK {
			panic(fmt.Sprintf("%v: %v", k, err))
		}
	}
}

func byKey(a, b api.Key) int {
	if ring.Less(a, b) {
		return -1
	}
	return 1
}

// images are those of the servers of a group, in its order, as far as there are records for them; nil: of that one there is no image.
func images(c api.Config, k api.Key, l ...records) []api.Image {
	var all []api.Image
	for i, id := range groupOf(c, k)[:len(l)] {
		if l[i] != nil {
			all = append(all, image(c, id, l[i]))
		}
	}
	return all
}

// of is that row of things, each on a disk of its own, under one key; nil: nothing lies on that disk.
func of(c api.Config, k api.Key, l ...any) []api.Image {
	all := make([]records, len(l))
	for i, what := range l {
		all[i] = records{}
		if what != nil {
			all[i][k] = what
		}
	}
	return images(c, k, all...)
}

// mustFind holds Run against faults, with several numbers of workers, and with the images in other orders.
func mustFind(t testing.TB, c api.Config, l []api.Image, want ...api.Fault) {
	t.Helper()
	l = slices.Clone(l)
	for turn := range max(1, len(l)) {
		for _, workers := range []int{1, 2, 3, api.MaxWorkers} {
			got, err := audit.Run(c, l, workers)
			if err != api.OK || !slices.Equal(got, want) {
				t.Fatalf("Run with %d workers, the images in the order %d: %v, %v, not %v", workers, turn, got, err, want)
			}
			slices.Reverse(l)
		}
		if len(l) > 0 {
			l = append(l[1:], l[0])
		}
	}
}

// mustBeNewestBlock holds Newest of a block's key against a block.
func mustBeNewestBlock(t testing.TB, c api.Config, l []api.Image, k api.Key, want api.Block) {
	t.Helper()
	b, no, err := audit.Newest(c, l, k)
	if err != api.OK || !sameBlock(b, want) || !sameBucket(no, api.Bucket{}) {
		t.Fatalf("Newest(%v): %v, %v, %v, not %v", k, b, no, err, want)
	}
}

// mustBeNewestBucket holds Newest of a bucket's key against a bucket.
func mustBeNewestBucket(t testing.TB, c api.Config, l []api.Image, number int, want api.Bucket) {
	t.Helper()
	no, b, err := audit.Newest(c, l, dir(number))
	if err != api.OK || !sameBucket(b, want) || !sameBlock(no, api.Block{}) {
		t.Fatalf("Newest of bucket %d: %v, %v, %v, not %v", number, no, b, err, want)
	}
}

// Held against each other, no list and an empty one are the same.

func sameBlock(a, b api.Block) bool { return a.Stamp == b.Stamp && bytes.Equal(a.Data, b.Data) }

func sameBucket(a, b api.Bucket) bool {
	return a.Upto == b.Upto && slices.Equal(a.Entries, b.Entries) && slices.Equal(a.Lasts, b.Lasts)
}

// words tells what lies on disks, a line a record.
func words(l []tray) string {
	var b strings.Builder
	for _, s := range l {
		fmt.Fprintf(&b, "server %d:\n", s.server)
		for _, k := range slices.SortedFunc(maps.Keys(s.records), byKey) {
			fmt.Fprintf(&b, "\t%v: %+v\n", k, s.records[k])
		}
	}
	return b.String()
}

// tray is what lies on a server's disk.
type tray struct {
	server  int
	records records
}

// imagesOf are the disks with what lies on trays.
func imagesOf(c api.Config, l []tray) []api.Image {
	var all []api.Image
	for _, s := range l {
		all = append(all, image(c, s.server, s.records))
	}
	return all
}

// stranger is a server that does not stand in a group.
func stranger(c api.Config, group []int) int {
	i := slices.IndexFunc(c.Servers, func(id int) bool { return !slices.Contains(group, id) })
	return c.Servers[i]
}
