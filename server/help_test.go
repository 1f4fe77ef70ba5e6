package server_test

import (
	"fmt"
	"iter"
	"slices"
	"strconv"
	"strings"
	"testing"

	"cairn/api"
	"cairn/disk"
	"cairn/msg"
	"cairn/ring"
	"cairn/server"
	"cairn/stable"
)

// machine is a server, or the plain one that it is held against.
type machine interface {
	Step(data []byte) []api.Packet
	Trim(number, upto int) (int, api.Errno)
	Mend(other int, k api.Key) ([]api.Packet, api.Errno)
	Arm(records int)
	Limit(sectors int)
	Fallen() bool
	Block(k api.Key) api.Block
	Instance(k api.Key) api.Instance
	Bucket(number int) api.Bucket
	Keys() iter.Seq[api.Key]
}

// These stand here to be compiled: the faces have these types.
var (
	_ func(c api.Config, id int, d *disk.Disk) (*server.Server, api.Errno) = server.New
	_ func(c api.Config) [4]int                                            = server.Most
	_ machine                                                              = (*server.Server)(nil)
)

// What most tests are of: server 2, asked by client 4 and by server 3, of bucket 1.
const (
	me     = 2
	number = 1
	last   = api.MaxInstance
)

// three is the configuration of the chapter's examples: all groups are these three.
func three() api.Config {
	return api.Config{Servers: []int{1, 2, 3}, F: 1, Points: 1, Buckets: 2, Block: 3, Room: 2}
}

// seven has groups in which server 2 does not stand.
func seven() api.Config {
	return api.Config{Servers: []int{9, 2, 3, 1, 200, 5, 255}, F: 1, Points: 3, Buckets: 16, Block: 3, Room: 2}
}

var (
	dir   = api.Key{Kind: api.KBucket, A: number}
	zero  api.Command
	clear api.Instance
)

func stamp(n, client int) api.Stamp { return api.Stamp{N: n, Client: client} }

func node(id int) api.Addr { return api.Addr{Id: id} }

func user(id int) api.Addr { return api.Addr{Client: true, Id: id} }

func block(index int) api.Key { return api.Key{Kind: api.KBlock, A: 4, B: 2, C: index} }

// at is the key of an instance of the bucket dir.
func at(n int) api.Key { return api.Key{Kind: api.KInstance, A: number, B: n} }

// command is what is decided in the instance n, whoever knows it.
func command(n int) api.Command {
	name := "f" + strconv.Itoa(n%4)
	switch n % 4 {
	case 0:
		return api.Command{Kind: api.CList, Client: 4, Op: n}
	case 3:
		return api.Command{Kind: api.CRemove, Client: 1 + n%5, Op: n, Name: "f1"}
	}
	return api.Command{Kind: api.CCreate, Client: 1 + n%5, Op: n, Name: name}
}

// other is another command than what is decided there.
func other(n int) api.Command {
	return api.Command{Kind: api.CRemove, Client: 9, Op: n, Name: "other"}
}

func commands(from, to int) []api.Command {
	var list []api.Command
	for n := from; n <= to; n++ {
		list = append(list, command(n))
	}
	return list
}

func decided(n int) api.Instance { return api.Instance{Command: command(n), Decided: true} }

// brought is a bucket as it may be brought by a mend: it tells by what is in it up to where it goes.
func brought(upto int) api.Bucket {
	f := api.File{Client: 9, Op: upto}
	return api.Bucket{Upto: upto, Entries: []api.Entry{{Name: "b" + strconv.Itoa(upto), File: f, Size: 3}}, Lasts: []api.Last{{Client: 9, Op: upto, Instance: upto, File: f, Size: 3}}}
}

// asked is a message of client 4 to server 2.
func asked(kind int, k api.Key) api.Msg {
	return api.Msg{Kind: kind, From: user(4), To: node(me), Op: 9, Round: 1, Key: k}
}

func query(k api.Key) api.Msg { return asked(api.MQuery, k) }

func put(k api.Key, s api.Stamp, data string) api.Msg {
	m := asked(api.MPut, k)
	m.Stamp, m.Block = s, []byte(data)
	return m
}

func prepare(k api.Key, s api.Stamp) api.Msg {
	m := asked(api.MPrepare, k)
	m.Stamp = s
	return m
}

func accept(k api.Key, s api.Stamp, c api.Command) api.Msg {
	m := asked(api.MAccept, k)
	m.Stamp, m.Command = s, c
	return m
}

func learned(k api.Key, c api.Command) api.Msg {
	m := asked(api.MLearned, k)
	m.Command = c
	return m
}

// between is a message of server 3 to server 2.
func between(kind int, k api.Key) api.Msg {
	return api.Msg{Kind: kind, From: node(3), To: node(me), Key: k}
}

// ask asks for a block; or for a bucket, from an instance on.
func ask(k api.Key, n int) api.Msg {
	m := between(api.MAsk, k)
	m.Stamp.N = n
	return m
}

func haveBlock(k api.Key, s api.Stamp, data string) api.Msg {
	m := between(api.MHave, k)
	m.Stamp, m.Block = s, []byte(data)
	return m
}

func haveBucket(b api.Bucket, more bool) api.Msg {
	m := between(api.MHave, dir)
	m.Bucket, m.More = b, more
	return m
}

func have(n int, more bool, l ...api.Command) api.Msg {
	m := between(api.MHave, dir)
	m.Stamp.N, m.Commands, m.More = n, l, more
	return m
}

func encoded(t testing.TB, c api.Config, m api.Msg) []byte {
	t.Helper()
	b, err := msg.Encode(m, c)
	if err != api.OK {
		t.Fatalf("%+v may not be: %v", m, err)
	}
	return b
}

func newDisk(t testing.TB, sectors int) *disk.Disk {
	t.Helper()
	d, err := disk.New(sectors)
	if err != api.OK {
		t.Fatal(err)
	}
	return d
}

func loaded(t testing.TB, image []byte) *disk.Disk {
	t.Helper()
	d, err := disk.Load(image)
	if err != api.OK {
		t.Fatal(err)
	}
	return d
}

// started is server 2 over a disk; starting writes nothing.
func started(t testing.TB, c api.Config, d *disk.Disk) *server.Server {
	t.Helper()
	writes := d.Counts().Writes
	s, err := server.New(c, me, d)
	if err != api.OK || s == nil || s.Fallen() {
		t.Fatalf("New: %v, %v", s, err)
	}
	if d.Counts().Writes != writes {
		t.Fatal("New has written")
	}
	return s
}

func fresh(t testing.TB, sectors int) (*server.Server, *disk.Disk) {
	t.Helper()
	d := newDisk(t, sectors)
	return started(t, three(), d), d
}

// sent are the messages of packets; each packet is as P1303 says.
func sent(t testing.TB, c api.Config, list []api.Packet) []api.Msg {
	t.Helper()
	var all []api.Msg
	for _, p := range list {
		m, err := msg.Decode(p.Data, c)
		if err != api.OK {
			t.Fatalf("a packet holds no message: %v", err)
		}
		if p.From != node(me) || m.From != p.From || p.To != m.To || p.Count != 0 {
			t.Fatalf("a packet from %v to %v, Count %d, with %+v", p.From, p.To, p.Count, m)
		}
		all = append(all, m)
	}
	return all
}

func tell(t testing.TB, s machine, c api.Config, m api.Msg) []api.Msg {
	t.Helper()
	return sent(t, c, s.Step(encoded(t, c, m)))
}

// answers fills in what all answers to a message have in common.
func answers(m, a api.Msg) api.Msg {
	a.From, a.To, a.Op, a.Round, a.Key = m.To, m.From, m.Op, m.Round, m.Key
	return a
}

// must hands over a message of the configuration three; want: what is answered, none if its Kind is 0.
func must(t testing.TB, s machine, m, want api.Msg) {
	t.Helper()
	var list []api.Msg
	if want.Kind != 0 {
		list = append(list, answers(m, want))
	}
	if got := tell(t, s, three(), m); !same(got, list) {
		t.Fatalf("%+v is answered\n%+v, not\n%+v", m, got, list)
	}
}

func mustNothing(t testing.TB, s machine, list ...api.Msg) {
	t.Helper()
	for _, m := range list {
		must(t, s, m, api.Msg{})
	}
}

// same compares by what is told: no list and an empty one are the same.
func same(a, b any) bool { return fmt.Sprintf("%+v", a) == fmt.Sprintf("%+v", b) }

func mustTrim(t testing.TB, s machine, upto, want int) {
	t.Helper()
	if got, err := s.Trim(number, upto); got != want || err != api.OK {
		t.Fatalf("Trim(%d, %d): %d, %v, not %d", number, upto, got, err, want)
	}
}

func mustRefuseTrim(t testing.TB, s machine, number, upto int, want api.Errno) {
	t.Helper()
	if got, err := s.Trim(number, upto); got != 0 || err != want {
		t.Fatalf("Trim(%d, %d): %d, %v, not %v", number, upto, got, err, want)
	}
}

func mustRefuseMend(t testing.TB, s machine, other int, k api.Key, want api.Errno) {
	t.Helper()
	if got, err := s.Mend(other, k); len(got) != 0 || err != want {
		t.Fatalf("Mend(%d, %v): %v, %v, not %v", other, k, got, err, want)
	}
}

func mustMend(t testing.TB, s machine, c api.Config, other int, k api.Key, n int) {
	t.Helper()
	list, err := s.Mend(other, k)
	want := []api.Msg{{Kind: api.MAsk, From: node(me), To: node(other), Key: k, Stamp: stamp(n, 0)}}
	if got := sent(t, c, list); err != api.OK || !same(got, want) {
		t.Fatalf("Mend(%d, %v): %v, %+v, not %+v", other, k, err, got, want)
	}
}

// mustDo is a step that a test needs to have been done, whatever is answered.
func mustDo(t testing.TB, s machine, c api.Config, list ...api.Msg) {
	t.Helper()
	for _, m := range list {
		tell(t, s, c, m)
		if s.Fallen() {
			t.Fatalf("it has fallen at %+v", m)
		}
	}
}

// universe is the keys of which a view tells.
func universe(c api.Config) []api.Key {
	list := []api.Key{{}, {Kind: 4, A: 1}, {Kind: api.KBlock}, {Kind: api.KBlock, A: 256, B: 1}, {Kind: api.KInstance, A: number, B: 1, C: 1}, {Kind: api.KBucket, A: number, B: 1}, {Kind: api.KInstance, A: number}, {Kind: api.KInstance, A: -1, B: 1}}
	for i := range 8 {
		list = append(list, block(i))
	}
	for number := range c.Buckets {
		list = append(list, api.Key{Kind: api.KBucket, A: number})
		for n := 1; n <= 9; n++ {
			list = append(list, api.Key{Kind: api.KInstance, A: number, B: n})
		}
		list = append(list, api.Key{Kind: api.KInstance, A: number, B: last})
	}
	return list
}

// view is all that a server tells of what it holds, as text: two that hold the same have the same one.
func view(s machine, c api.Config) string {
	var b strings.Builder
	keys := slices.Collect(s.Keys())
	for _, k := range slices.Concat(keys, universe(c)) {
		x, i := s.Block(k), s.Instance(k)
		if x.Stamp == (api.Stamp{}) && len(x.Data) == 0 && i == clear {
			continue
		}
		fmt.Fprintln(&b, k, x, i)
	}
	for number := -1; number <= c.Buckets; number++ {
		if x := s.Bucket(number); x.Upto != 0 || len(x.Entries) != 0 || len(x.Lasts) != 0 {
			fmt.Fprintln(&b, number, x)
		}
	}
	fmt.Fprintln(&b, keys, s.Fallen())
	return b.String()
}

// reopened is what a server holds that is started over the image of a disk.
func reopened(t testing.TB, c api.Config, d *disk.Disk) string {
	t.Helper()
	return view(started(t, c, loaded(t, d.Image())), c)
}

// mustLast: the server that is started over the disk, and the one over its image, hold what this one holds.
func mustLast(t testing.TB, s machine, c api.Config, d *disk.Disk) {
	t.Helper()
	want := view(s, c)
	if got := reopened(t, c, d); got != want {
		t.Fatalf("started again it holds\n%s\nnot\n%s", got, want)
	}
	if got := view(started(t, c, d), c); got != want {
		t.Fatalf("started again over the same disk it holds\n%s\nnot\n%s", got, want)
	}
}

// mustWrite tells whether something writes to the disk.
func mustWrite(t testing.TB, d *disk.Disk, writes bool, do func()) {
	t.Helper()
	was, image := d.Counts().Writes, d.Image()
	do()
	if now := d.Counts().Writes; (now != was) != writes {
		t.Fatalf("%d writes, not %v", now-was, writes)
	}
	if !writes && !slices.Equal(image, d.Image()) {
		t.Fatal("the disk is another")
	}
}

// laying puts records on a disk by hand, as a server of that configuration would.
func laying(t testing.TB, c api.Config, d *disk.Disk) *stable.Store {
	t.Helper()
	s, err := stable.Open(d, server.Most(c))
	if err != api.OK {
		t.Fatal(err)
	}
	return s
}

func lay(t testing.TB, s *stable.Store, k api.Key, record []byte, err api.Errno) {
	t.Helper()
	if err != api.OK {
		t.Fatalf("%v: no record: %v", k, err)
	}
	if err := s.Put(k, record); err != api.OK {
		t.Fatalf("%v: %v", k, err)
	}
}

func layBlock(t testing.TB, c api.Config, s *stable.Store, k api.Key, x api.Block) {
	t.Helper()
	b, err := msg.PackBlock(x, c)
	lay(t, s, k, b, err)
}

func layBucket(t testing.TB, c api.Config, s *stable.Store, k api.Key, x api.Bucket) {
	t.Helper()
	b, err := msg.PackBucket(x, c)
	lay(t, s, k, b, err)
}

func layInstance(t testing.TB, c api.Config, s *stable.Store, k api.Key, x api.Instance) {
	t.Helper()
	b, err := msg.PackInstance(x, c)
	lay(t, s, k, b, err)
}

// mine tells whether server 2 stands in a key's group.
func mine(t testing.TB, c api.Config, k api.Key) bool {
	t.Helper()
	r, err := ring.New(c)
	if err != api.OK {
		t.Fatal(err)
	}
	group, err := r.Group(k)
	if err != api.OK {
		t.Fatalf("%v: %v", k, err)
	}
	return slices.Contains(group, me)
}

// of are a block's, a bucket's and an instance's key in whose group server 2 stands, or does not stand.
func of(t testing.TB, c api.Config, stands bool) (b, d, i api.Key) {
	t.Helper()
	for n := 0; n < api.MaxIndex; n++ {
		if b = block(n); mine(t, c, b) == stands {
			break
		}
	}
	for n := range c.Buckets {
		if d = (api.Key{Kind: api.KBucket, A: n}); mine(t, c, d) == stands {
			return b, d, api.Key{Kind: api.KInstance, A: n, B: 1}
		}
	}
	t.Fatal("no such bucket")
	return
}

// mustBeDown: every call is answered as by a server that has fallen, and nothing is written.
func mustBeDown(t testing.TB, s machine, d *disk.Disk) {
	t.Helper()
	if !s.Fallen() {
		t.Fatal("it has not fallen")
	}
	mustWrite(t, d, false, func() {
		for range 2 {
			for _, m := range []api.Msg{query(block(0)), put(block(0), stamp(99, 9), "new"), put(block(7), stamp(99, 9), "new"), prepare(at(1), stamp(99, 9)), accept(at(9), stamp(99, 9), command(9)), learned(at(8), command(8)), ask(dir, 1), ask(block(0), 0), haveBlock(block(0), stamp(99, 9), "new"), haveBucket(brought(9), true), have(1, true, commands(1, 9)...)} {
				mustNothing(t, s, m)
			}
			if len(s.Step(nil)) != 0 {
				t.Fatal("a packet")
			}
			for _, n := range []int{-1, 0, 1, 2, 9} {
				mustRefuseTrim(t, s, n, 1, api.ErrFallen)
				mustRefuseTrim(t, s, n, -1, api.ErrFallen)
				mustRefuseMend(t, s, n, dir, api.ErrFallen)
				mustRefuseMend(t, s, n, at(1), api.ErrFallen)
			}
			for _, k := range universe(three()) {
				if x := s.Block(k); x.Stamp != (api.Stamp{}) || len(x.Data) != 0 || s.Instance(k) != clear {
					t.Fatalf("%v: %v, %v", k, x, s.Instance(k))
				}
			}
			if b := s.Bucket(number); b.Upto != 0 || len(b.Entries) != 0 || len(b.Lasts) != 0 {
				t.Fatalf("%+v", b)
			}
			for k := range s.Keys() {
				t.Fatalf("the key %v", k)
			}
			s.Arm(0)
			s.Limit(99)
			if !s.Fallen() {
				t.Fatal("it stands again")
			}
		}
	})
}

// mustRecord is a step that makes a record, which lies there then; mustNone one that makes none.
func mustRecord(t testing.TB, s machine, d *disk.Disk, m, want api.Msg) {
	t.Helper()
	was := view(s, three())
	mustWrite(t, d, true, func() { must(t, s, m, want) })
	if view(s, three()) == was {
		t.Fatalf("%+v changes nothing", m)
	}
	mustLast(t, s, three(), d)
}

func mustNone(t testing.TB, s machine, d *disk.Disk, m, want api.Msg) {
	t.Helper()
	was := view(s, three())
	mustWrite(t, d, false, func() { must(t, s, m, want) })
	if now := view(s, three()); now != was {
		t.Fatalf("%+v makes of\n%s\nthis:\n%s", m, was, now)
	}
}

func startedAs(t testing.TB, c api.Config, id int, d *disk.Disk) *server.Server {
	t.Helper()
	s, err := server.New(c, id, d)
	if err != api.OK {
		t.Fatal(err)
	}
	return s
}
