package history_test

import (
	"bytes"
	"fmt"
	"os"
	"runtime/debug"
	"slices"
	"strings"
	"testing"

	"cairn/api"
	"cairn/history"
)

// Histories are made and looked at by the thousand, and thrown away: with little alive, the collector may wait.
func TestMain(m *testing.M) {
	debug.SetGCPercent(1000)
	os.Exit(m.Run())
}

// These stand here to be compiled: the faces have these types.
var (
	_ func(c api.Config, l []api.Line) api.Errno        = history.Right
	_ func(c api.Config, l []api.Line) ([]int, bool)    = history.Witness
	_ func(c api.Config, l []api.Line, order []int) int = history.Legal
	_ func(l []api.Line) bool                           = history.Alone
)

// small has blocks of one byte, as the chapter's examples.
func small() api.Config {
	return api.Config{Servers: []int{3, 1, 2}, F: 1, Points: 1, Buckets: 2, Block: 1, Room: 2}
}

func least() api.Config {
	return api.Config{Servers: []int{255}, Points: 1, Buckets: 1, Block: 1, Room: 1}
}

func greatest() api.Config {
	c := api.Config{F: api.MaxF, Points: api.MaxPoints, Buckets: api.MaxBuckets, Block: api.MaxBlock, Room: api.MaxRoom}
	for id := api.MaxId; len(c.Servers) < api.MaxServers; id -= 3 {
		c.Servers = append(c.Servers, id)
	}
	return c
}

// bucketOf is where a name belongs, by P207.
func bucketOf(c api.Config, name string) int {
	hash := uint32(2166136261)
	for i := range len(name) {
		hash = (hash ^ uint32(name[i])) * 16777619
	}
	return int(hash) % c.Buckets
}

// inBucket is the which-th name of that bucket.
func inBucket(c api.Config, number, which int) string {
	for b := byte('a'); ; b++ {
		if name := string(b); bucketOf(c, name) == number {
			if which == 0 {
				return name
			}
			which--
		}
	}
}

// The operations. That of blocks is the file of the chapter's examples.
func theFile() api.File { return api.File{Client: 1, Op: 1} }

func read() api.Op              { return readOf(theFile(), 0) }
func write(data ...byte) api.Op { return writeOf(theFile(), 0, data...) }

func readOf(f api.File, index int) api.Op { return api.Op{Kind: api.ORead, File: f, N: index} }
func writeOf(f api.File, index int, data ...byte) api.Op {
	return api.Op{Kind: api.OWrite, File: f, N: index, Data: data}
}

func create(name string) api.Op { return api.Op{Kind: api.OCreate, Name: name} }
func remove(name string) api.Op { return api.Op{Kind: api.ORemove, Name: name} }
func lookup(name string) api.Op { return api.Op{Kind: api.OLookup, Name: name} }
func list(number int) api.Op    { return api.Op{Kind: api.OList, N: number} }
func setSize(name string, f api.File, n int) api.Op {
	return api.Op{Kind: api.OSetSize, Name: name, File: f, N: n}
}
func grow(name string, f api.File, n int) api.Op {
	return api.Op{Kind: api.OGrow, Name: name, File: f, N: n}
}
func replace(name string, f, g api.File, n int) api.Op {
	return api.Op{Kind: api.OReplace, Name: name, File: f, New: g, N: n}
}
func readAt(name string) api.Op { return api.Op{Kind: api.OReadAt, Name: name, N: 1} }

func isBlock(o api.Op) bool { return o.Kind == api.ORead || o.Kind == api.OWrite }

// The lines.
func invoke(client, number int, o api.Op) api.Line {
	return api.Line{Kind: api.HInvoke, Client: client, Number: number, Op: o}
}

func returns(client, number int, r api.Result) api.Line {
	return api.Line{Kind: api.HReturn, Client: client, Number: number, Result: r}
}

func learn(bucket, instance int, x api.Command) api.Line {
	return api.Line{Kind: api.HLearn, Key: api.Key{Kind: api.KInstance, A: bucket, B: instance}, Command: x}
}

func begin(client int, o api.Op) api.Line {
	return api.Line{Kind: api.HBegin, Client: client, Op: o}
}

func end(client int) api.Line { return api.Line{Kind: api.HEnd, Client: client} }

// The results.
func stamp(n, client int) api.Stamp { return api.Stamp{N: n, Client: client} }

func wrote(n, client int) api.Result { return api.Result{Stamp: stamp(n, client)} }

func got(b byte, n, client int) api.Result {
	return api.Result{Data: []byte{b}, Stamp: stamp(n, client)}
}

func worn() api.Result { return api.Result{Err: api.ErrWorn} }

// made is what an OCreate of that client and number is answered.
func made(name string, client, number, instance int) api.Result {
	return api.Result{Entry: api.Entry{Name: name, File: api.File{Client: client, Op: number}}, Instance: instance}
}

// at is a result of which only the instance counts.
func at(instance int) api.Result { return api.Result{Instance: instance} }

// commandOf is what an operation asks of its bucket.
func commandOf(client, number int, o api.Op) api.Command {
	x := api.Command{Kind: o.Kind, Client: client, Op: number, Name: o.Name, File: o.File, New: o.New, Size: o.N}
	if o.Kind == api.OList {
		x.Size = 0
	}
	return x
}

// one is a complete operation, alone.
func one(client, number int, o api.Op, r api.Result) []api.Line {
	return []api.Line{invoke(client, number, o), returns(client, number, r)}
}

func mustBeRight(t testing.TB, c api.Config, l []api.Line, want api.Errno) {
	t.Helper()
	if err := history.Right(c, l); err != want {
		t.Fatalf("Right: %v, not %v, of\n%s", err, want, words(l))
	}
}

// mustTell holds Witness against an order.
func mustTell(t testing.TB, c api.Config, l []api.Line, want ...int) {
	t.Helper()
	mustBeRight(t, c, l, api.OK)
	if order, ok := history.Witness(c, l); !ok || !slices.Equal(order, want) {
		t.Fatalf("Witness: %v, %v, not %v, of\n%s", order, ok, want, words(l))
	}
}

// mustTellNone holds it against there being none, though it is a history.
func mustTellNone(t testing.TB, c api.Config, l []api.Line) {
	t.Helper()
	mustBeRight(t, c, l, api.OK)
	if order, ok := history.Witness(c, l); ok || len(order) > 0 {
		t.Fatalf("Witness: %v, %v, not none, of\n%s", order, ok, words(l))
	}
}

func mustBeLegal(t testing.TB, c api.Config, l []api.Line, want int, order ...int) {
	t.Helper()
	if n := history.Legal(c, l, order); n != want {
		t.Fatalf("Legal(%v): %d, not %d, of\n%s", order, n, want, words(l))
	}
}

// words tells lines, one below the other.
func words(l []api.Line) string {
	var b strings.Builder
	for i, x := range l {
		fmt.Fprintf(&b, "%4d: ", i)
		switch x.Kind {
		case api.HInvoke, api.HBegin:
			fmt.Fprintf(&b, "kind %d, client %d, number %d, %+v", x.Kind, x.Client, x.Number, x.Op)
		case api.HReturn, api.HEnd:
			fmt.Fprintf(&b, "kind %d, client %d, number %d, %+v", x.Kind, x.Client, x.Number, x.Result)
		case api.HLearn:
			fmt.Fprintf(&b, "learned %+v, %+v", x.Key, x.Command)
		default:
			fmt.Fprintf(&b, "%+v", x)
		}
		b.WriteByte('\n')
	}
	return b.String()
}

// Held against each other, no list and an empty one are the same.

func sameResult(a, b api.Result) bool {
	return a.Err == b.Err && a.Entry == b.Entry && slices.Equal(a.List, b.List) && bytes.Equal(a.Data, b.Data) &&
		a.N == b.N && a.Stamp == b.Stamp && a.Instance == b.Instance
}

func sameOp(a, b api.Op) bool {
	return a.Kind == b.Kind && a.Name == b.Name && a.Other == b.Other && a.File == b.File && a.New == b.New && a.At == b.At && a.N == b.N && bytes.Equal(a.Data, b.Data)
}

// copied shares no memory with the lines.
func copied(l []api.Line) []api.Line {
	l = slices.Clone(l)
	for i := range l {
		l[i].Op.Data, l[i].Result.Data, l[i].Result.List = bytes.Clone(l[i].Op.Data), bytes.Clone(l[i].Result.Data), slices.Clone(l[i].Result.List)
	}
	return l
}
