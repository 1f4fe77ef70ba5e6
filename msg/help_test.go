package msg_test

import (
	"bytes"
	"math"
	"reflect"
	"slices"
	"strings"
	"testing"

	"cairn/api"
	"cairn/msg"
	"cairn/wire"
)

// What may be, and its bytes, are told here once more, by tables, to be held against the package.

var small = api.Config{Servers: []int{1, 2, 3}, F: 1, Points: 1, Buckets: 2, Block: 3, Room: 2}

var great = api.Config{Servers: []int{255, 1, 9, 30, 7, 200, 128, 64}, F: 3, Points: 64, Buckets: 256, Block: 4096, Room: 256}

var least = api.Config{Servers: []int{255}, F: 0, Points: 1, Buckets: 1, Block: 1, Room: 1}

func client(id int) api.Addr { return api.Addr{Client: true, Id: id} }

func server(id int) api.Addr { return api.Addr{Id: id} }

func stamp(n, c int) api.Stamp { return api.Stamp{N: n, Client: c} }

func file(c, op int) api.File { return api.File{Client: c, Op: op} }

func blockKey(a, b, c int) api.Key { return api.Key{Kind: api.KBlock, A: a, B: b, C: c} }

func bucketKey(a int) api.Key { return api.Key{Kind: api.KBucket, A: a} }

func instanceKey(a, b int) api.Key { return api.Key{Kind: api.KInstance, A: a, B: b} }

func in(n, from, to int) bool { return n >= from && n <= to }

func isStamp(s api.Stamp) bool { return in(s.N, 1, 1<<40) && in(s.Client, 1, 255) }

func noStamp(s api.Stamp) bool { return s.N == 0 && s.Client == 0 }

func anyStamp(s api.Stamp) bool { return isStamp(s) || noStamp(s) }

func startStamp(s api.Stamp) bool { return in(s.N, 1, 1<<20+1) && s.Client == 0 }

func isFile(f api.File) bool { return in(f.Client, 1, 255) && in(f.Op, 1, 1<<40) }

func isSize(n int, c api.Config) bool { return in(n, 0, 1<<20*c.Block) }

func isName(s string) bool {
	return in(len(s), 1, 255) && !strings.Contains(s, "/") && !strings.Contains(s, "\x00")
}

// What each kind of command names: its Name, File, New, Size.
var commandNames = map[int]string{1: "n", 2: "n", 3: "n", 4: "", 5: "nfs", 6: "nfs", 7: "nfws"}

func isCommand(x api.Command, c api.Config) bool {
	names, is := commandNames[x.Kind]
	for _, f := range []struct {
		letter      string
		right, zero bool
	}{
		{"n", isName(x.Name), x.Name == ""},
		{"f", isFile(x.File), x.File == file(0, 0)},
		{"w", isFile(x.New), x.New == file(0, 0)},
		{"s", isSize(x.Size, c), x.Size == 0},
	} {
		if strings.Contains(names, f.letter) {
			is = is && f.right
		} else {
			is = is && f.zero
		}
	}
	return is && in(x.Client, 1, 255) && in(x.Op, 1, 1<<40)
}

func isBucket(b api.Bucket, c api.Config) bool {
	is := in(b.Upto, 0, 1<<20) && len(b.Entries) <= c.Room && (b.Upto > 0 || len(b.Entries)+len(b.Lasts) == 0)
	for i, e := range b.Entries {
		is = is && isName(e.Name) && isFile(e.File) && isSize(e.Size, c)
		is = is && (i == 0 || bytes.Compare([]byte(b.Entries[i-1].Name), []byte(e.Name)) < 0)
	}
	for i, l := range b.Lasts {
		is = is && in(l.Client, 1, 255) && in(l.Op, 1, 1<<40) && in(l.Instance, 1, b.Upto)
		is = is && (i == 0 || b.Lasts[i-1].Client < l.Client)
		with := isFile(l.File) && isSize(l.Size, c)
		without := l.File == file(0, 0) && l.Size == 0
		is = is && (with && in(int(l.Err), 101, 101) || with && l.Err == 0 || with && l.Err == 104 || without && in(int(l.Err), 102, 103))
	}
	return is
}

func notAbove(s, t api.Stamp) bool { return s.N < t.N || s.N == t.N && s.Client <= t.Client }

func isHeld(held, most api.Stamp, x api.Command, c api.Config) bool {
	return anyStamp(held) && notAbove(held, most) && (noStamp(held) && x == api.Command{} || isStamp(held) && isCommand(x, c))
}

func isInstance(x api.Instance, c api.Config) bool {
	if x.Decided {
		return noStamp(x.Promised) && noStamp(x.Accepted) && isCommand(x.Command, c)
	}
	return anyStamp(x.Promised) && isHeld(x.Accepted, x.Promised, x.Command, c)
}

func isBlock(x api.Block, c api.Config) bool {
	zero := bytes.Equal(x.Data, make([]byte, c.Block))
	return len(x.Data) == c.Block && (isStamp(x.Stamp) || noStamp(x.Stamp) && zero)
}

func isKey(k api.Key, c api.Config) bool {
	switch k.Kind {
	case 1:
		return in(k.A, 1, 255) && in(k.B, 1, 1<<40) && in(k.C, 0, 1<<20-1)
	case 2:
		return in(k.A, 0, c.Buckets-1) && k.B == 0 && k.C == 0
	case 3:
		return in(k.A, 0, c.Buckets-1) && in(k.B, 1, 1<<20) && k.C == 0
	}
	return false
}

// row is one of the chapter's table. What it names beside the key: s Stamp, h Held, b Block, c Command, u Bucket, l Commands, m More.
type row struct {
	kind  int
	ends  string
	key   int
	stamp func(api.Stamp) bool
	names string
	rest  func(api.Msg, api.Config) bool
}

func hasBlock(m api.Msg, c api.Config) bool { return len(m.Block) == c.Block }

func hasCommand(m api.Msg, c api.Config) bool { return isCommand(m.Command, c) }

func nothingElse(api.Msg, api.Config) bool { return true }

var rows = []row{
	{1, "client, server", 1, noStamp, "", nothingElse},
	{2, "client, server", 1, isStamp, "sb", hasBlock},
	{3, "client, server", 3, isStamp, "s", nothingElse},
	{4, "client, server", 3, isStamp, "sc", hasCommand},
	{5, "client, server", 3, noStamp, "c", hasCommand},
	{11, "server, client", 1, anyStamp, "sb", func(m api.Msg, c api.Config) bool { return isBlock(api.Block{Stamp: m.Stamp, Data: m.Block}, c) }},
	{12, "server, client", 1, noStamp, "", nothingElse},
	{13, "server, client", 3, isStamp, "shc", func(m api.Msg, c api.Config) bool { return isHeld(m.Held, m.Stamp, m.Command, c) }},
	{14, "server, client", 3, isStamp, "s", nothingElse},
	{15, "server, client", 3, isStamp, "s", nothingElse},
	{16, "server, client", 3, noStamp, "c", hasCommand},
	{17, "server, client", 3, noStamp, "u", func(m api.Msg, c api.Config) bool { return isBucket(m.Bucket, c) && m.Bucket.Upto >= m.Key.B }},
	{21, "server, server", 1, noStamp, "", nothingElse},
	{21, "server, server", 2, startStamp, "s", nothingElse},
	{22, "server, server", 1, isStamp, "sb", hasBlock},
	{22, "server, server", 1, noStamp, "", nothingElse},
	{22, "server, server", 2, noStamp, "um", func(m api.Msg, c api.Config) bool { return isBucket(m.Bucket, c) && m.Bucket.Upto > 0 }},
	{22, "server, server", 2, startStamp, "slm", func(m api.Msg, c api.Config) bool {
		is := len(m.Commands) <= 64 && m.Stamp.N+len(m.Commands) <= 1<<20+1
		for _, x := range m.Commands {
			is = is && (x == api.Command{} || isCommand(x, c))
		}
		return is
	}},
}

func isEnd(a api.Addr, what string, c api.Config) bool {
	if what == "client" {
		return a.Client && in(a.Id, 1, 255)
	}
	return !a.Client && slices.Contains(c.Servers, a.Id)
}

// has tells the letters of the fields that are not zero.
func has(m api.Msg) string {
	s := ""
	for _, f := range []struct {
		letter string
		is     bool
	}{
		{"s", m.Stamp != stamp(0, 0)}, {"h", m.Held != stamp(0, 0)}, {"b", len(m.Block) > 0}, {"c", m.Command != api.Command{}},
		{"u", m.Bucket.Upto != 0 || len(m.Bucket.Entries)+len(m.Bucket.Lasts) > 0}, {"l", len(m.Commands) > 0}, {"m", m.More},
	} {
		if f.is {
			s += f.letter
		}
	}
	return s
}

func (r row) is(m api.Msg, c api.Config) bool {
	from, to, _ := strings.Cut(r.ends, ", ")
	is := m.Kind == r.kind && isEnd(m.From, from, c) && isEnd(m.To, to, c) && m.Key.Kind == r.key && isKey(m.Key, c)
	if from == to {
		is = is && m.From.Id != m.To.Id && m.Op == 0 && m.Round == 0
	} else {
		is = is && in(m.Op, 1, 1<<40) && in(m.Round, 1, 1<<40)
	}
	for _, letter := range has(m) {
		is = is && strings.ContainsRune(r.names, letter)
	}
	return is && r.stamp(m.Stamp) && r.rest(m, c)
}

func isMsg(m api.Msg, c api.Config) bool {
	return slices.ContainsFunc(rows, func(r row) bool { return r.is(m, c) })
}

// body puts numbers, texts and bytes behind one another.
func body(parts ...any) []byte {
	var b []byte
	num := func(n int) {
		for ; n > 127; n >>= 7 {
			b = append(b, byte(n)|128)
		}
		b = append(b, byte(n))
	}
	for _, p := range parts {
		switch x := p.(type) {
		case int:
			num(x)
		case bool:
			num(map[bool]int{true: 1}[x])
		case string:
			num(len(x))
			b = append(b, x...)
		case []byte:
			num(len(x))
			b = append(b, x...)
		case api.Stamp:
			b = append(b, body(x.N, x.Client)...)
		case api.File:
			b = append(b, body(x.Client, x.Op)...)
		case api.Command:
			if num(x.Kind); x.Kind != 0 {
				b = append(b, body(x.Client, x.Op, x.Name, x.File, x.New, x.Size)...)
			}
		case api.Bucket:
			b = append(b, body(x.Upto, len(x.Entries))...)
			for _, e := range x.Entries {
				b = append(b, body(e.Name, e.File, e.Size)...)
			}
			num(len(x.Lasts))
			for _, l := range x.Lasts {
				b = append(b, body(l.Client, l.Op, l.Instance, int(l.Err), l.File, l.Size)...)
			}
		case []api.Command:
			num(len(x))
			for _, y := range x {
				b = append(b, body(y)...)
			}
		default:
			panic("no part of a body")
		}
	}
	return b
}

// What stands behind the head of each kind: letters as has tells them.
var behind = map[int]string{1: "", 2: "sb", 3: "s", 4: "sc", 5: "c", 11: "sb", 12: "", 13: "shc", 14: "s", 15: "s", 16: "c", 17: "u", 21: "s", 22: "sbulm"}

func msgBody(m api.Msg) []byte {
	b := body(m.Kind, m.From.Client, m.From.Id, m.To.Client, m.To.Id, m.Op, m.Round, m.Key.Kind, m.Key.A, m.Key.B, m.Key.C)
	for _, letter := range behind[m.Kind] {
		part := map[rune]any{'s': m.Stamp, 'h': m.Held, 'b': m.Block, 'c': m.Command, 'u': m.Bucket, 'l': m.Commands, 'm': m.More}[letter]
		b = append(b, body(part)...)
	}
	return b
}

func blockBody(x api.Block) []byte { return body(x.Stamp, x.Data) }

func instanceBody(x api.Instance) []byte { return body(x.Promised, x.Accepted, x.Command, x.Decided) }

func bucketBody(x api.Bucket) []byte { return body(x) }

// nils makes no lists of empty ones: they are the same.
func nils(m api.Msg) api.Msg {
	m.Block, m.Commands, m.Bucket = orNil(m.Block), orNil(m.Commands), nilBucket(m.Bucket)
	return m
}

func nilBucket(b api.Bucket) api.Bucket {
	b.Entries, b.Lasts = orNil(b.Entries), orNil(b.Lasts)
	return b
}

func orNil[T any](l []T) []T {
	if len(l) == 0 {
		return nil
	}
	return l
}

func alike(a, b any) bool {
	plain := func(x any) any {
		switch x := x.(type) {
		case api.Msg:
			return nils(x)
		case api.Bucket:
			return nilBucket(x)
		case api.Block:
			x.Data = orNil(x.Data)
			return x
		}
		return x
	}
	return reflect.DeepEqual(plain(a), plain(b))
}

func want(is bool, e api.Errno) api.Errno {
	if is {
		return api.OK
	}
	return e
}

// record is a kind of thing that has a form: how it is packed, read, judged here, and refused there.
type record[T any] struct {
	pack                   func(T, api.Config) ([]byte, api.Errno)
	read                   func([]byte, api.Config) (T, api.Errno)
	is                     func(T, api.Config) bool
	body                   func(T) []byte
	unpackable, unreadable api.Errno
}

var (
	messages  = record[api.Msg]{msg.Encode, msg.Decode, isMsg, msgBody, api.ErrMsg, api.ErrMsg}
	blocks    = record[api.Block]{msg.PackBlock, msg.ReadBlock, isBlock, blockBody, api.ErrArg, api.ErrForm}
	instances = record[api.Instance]{msg.PackInstance, msg.ReadInstance, isInstance, instanceBody, api.ErrArg, api.ErrForm}
	buckets   = record[api.Bucket]{msg.PackBucket, msg.ReadBucket, isBucket, bucketBody, api.ErrArg, api.ErrForm}
)

// must holds what is packed of x, and read of that, against the tables.
func (r record[T]) must(t *testing.T, x T, c api.Config) {
	t.Helper()
	b, e := r.pack(x, c)
	if !r.is(x, c) {
		if e != r.unpackable || len(b) != 0 {
			t.Fatalf("%+v: packed: %d bytes, %v; it may not be", x, len(b), e)
		}
		return
	}
	if body := r.body(x); e != api.OK || !bytes.Equal(b, wire.Seal(body)) {
		t.Fatalf("%+v: packed: %v, %v; want the body %v", x, b, e, body)
	}
	if y, e := r.read(b, c); e != api.OK || !alike(x, y) {
		t.Fatalf("read of %+v: %+v, %v", x, y, e)
	}
}

// mustRefuse holds that a body, sealed, is none.
func (r record[T]) mustRefuse(t *testing.T, body []byte, c api.Config, what string) {
	t.Helper()
	var none T
	if x, e := r.read(wire.Seal(body), c); e != r.unreadable || !alike(x, none) {
		t.Fatalf("%s, the body %v: %+v, %v", what, body, x, e)
	}
}

// mustTurn holds that a body is refused, or is the one form of what is read.
func (r record[T]) mustTurn(t *testing.T, body []byte, c api.Config) bool {
	t.Helper()
	var none T
	sealed := wire.Seal(body)
	x, e := r.read(sealed, c)
	if e == api.OK {
		if b, e := r.pack(x, c); e != api.OK || !bytes.Equal(b, sealed) || !r.is(x, c) {
			t.Fatalf("the body %v is read as %+v, which is packed as %v, %v", body, x, b, e)
		}
		return true
	}
	if e != r.unreadable || !alike(x, none) {
		t.Fatalf("the body %v: %+v, %v", body, x, e)
	}
	return false
}

var (
	long    = strings.Repeat("n", 255)
	aFile   = file(4, 2)
	create  = api.Command{Kind: api.CCreate, Client: 4, Op: 9, Name: "plum"}
	remove  = api.Command{Kind: api.CRemove, Client: 1, Op: 1, Name: "a"}
	lookup  = api.Command{Kind: api.CLookup, Client: 255, Op: 1 << 40, Name: long}
	listing = api.Command{Kind: api.CList, Client: 4, Op: 9}
	setSize = api.Command{Kind: api.CSetSize, Client: 128, Op: 300, Name: "\xff ", File: file(1, 1), Size: 0}
	grow    = api.Command{Kind: api.CGrow, Client: 4, Op: 9, Name: "plum", File: aFile, Size: 300}
	replace = api.Command{Kind: api.CReplace, Client: 4, Op: 9, Name: "plum", File: aFile, New: file(255, 1<<40), Size: 3}
)

func commands() []api.Command {
	return []api.Command{create, remove, lookup, listing, setSize, grow, replace}
}

func full() api.Bucket {
	return api.Bucket{Upto: 300, Entries: []api.Entry{{Name: "fig", File: aFile, Size: 300}, {Name: "figs", File: file(1, 1)}}, Lasts: []api.Last{
		{Client: 1, Op: 1, Instance: 1, File: aFile, Size: 300}, {Client: 2, Op: 8, Instance: 300, Err: api.ErrNotFound},
		{Client: 3, Op: 1 << 40, Instance: 299, Err: api.ErrExists, File: file(255, 1<<40), Size: 1}, {Client: 254, Op: 7, Instance: 200, Err: api.ErrRoom},
		{Client: 255, Op: 7, Instance: 200, Err: api.ErrStale, File: file(2, 2)}}}
}

// ordinary tells messages of every row, all of them right with the small configuration.
func ordinary() []api.Msg {
	asks := func(kind int, k api.Key) api.Msg {
		return api.Msg{Kind: kind, From: client(4), To: server(2), Op: 9, Round: 1, Key: k}
	}
	tells := func(kind int, k api.Key) api.Msg {
		return api.Msg{Kind: kind, From: server(3), To: client(255), Op: 1 << 40, Round: 300, Key: k}
	}
	mends := func(kind int, k api.Key) api.Msg { return api.Msg{Kind: kind, From: server(1), To: server(3), Key: k} }
	block, instance, bucket := blockKey(4, 2, 0), instanceKey(1, 5), bucketKey(1)
	put, prepare, accept, learned := asks(2, block), asks(3, instance), asks(4, instance), asks(5, instance)
	put.Stamp, put.Block = stamp(7, 4), []byte{1, 2, 3}
	prepare.Stamp = stamp(1<<40, 255)
	accept.Stamp, accept.Command = stamp(1, 1), replace
	learned.Command = create
	value, nought, promise, held := tells(11, block), tells(11, block), tells(13, instance), tells(13, instance)
	value.Stamp, value.Block = stamp(1, 1), []byte{0, 0, 0}
	nought.Block = []byte{0, 0, 0}
	promise.Stamp = stamp(5, 4)
	held.Stamp, held.Held, held.Command = stamp(5, 4), stamp(5, 4), grow
	nack, accepted, known, trimmed := tells(14, instance), tells(15, instance), tells(16, instance), tells(17, instance)
	nack.Stamp, accepted.Stamp, known.Command, trimmed.Bucket = stamp(6, 1), stamp(5, 4), listing, full()
	ask, have, none, told, row := mends(21, bucket), mends(22, block), mends(22, block), mends(22, bucket), mends(22, bucket)
	ask.Stamp = stamp(1, 0)
	have.Stamp, have.Block = stamp(7, 4), []byte{9, 0, 255}
	told.Bucket, told.More = full(), true
	row.Stamp, row.Commands = stamp(3, 0), []api.Command{create, {}, listing}
	return []api.Msg{asks(1, block), put, prepare, accept, learned, value, nought, tells(12, block), promise, held, nack, accepted, known, trimmed,
		mends(21, block), ask, have, none, told, row}
}

var edges = []int{math.MinInt, -1, 0, 1, math.MaxInt}
