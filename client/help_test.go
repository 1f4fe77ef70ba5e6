package client_test

import (
	"bytes"
	"fmt"
	"iter"
	"slices"
	"sync"
	"testing"

	"cairn/api"
	"cairn/client"
	"cairn/msg"
	"cairn/ring"
)

// machine is a client, or the plain one that it is held against.
type machine interface {
	Invoke(o api.Op) ([]api.Packet, api.Errno)
	Step(data []byte) []api.Packet
	Tick() []api.Packet
	Done() (api.Result, bool)
	Pending() bool
	Number() int
	Stop()
	Fallen() bool
	News() iter.Seq2[api.Key, api.Command]
	Id() int
	Config() api.Config
}

// These stand here to be compiled: the faces have these types.
var (
	_ func(c api.Config, id int) (*client.Client, api.Errno) = client.New
	_ machine                                                = (*client.Client)(nil)
)

// me is the client that most tests are of.
const me = 5

// four is the configuration of the chapter's examples: of its four buckets the first ones of the groups are 20, 30, 10, 20.
func four() api.Config {
	return api.Config{Servers: []int{30, 10, 20}, F: 1, Points: 2, Buckets: 4, Block: 8, Room: 2}
}

// seven has groups in which not all servers stand.
func seven() api.Config {
	return api.Config{Servers: []int{9, 2, 3, 1, 200, 5, 255}, F: 1, Points: 3, Buckets: 16, Block: 3, Room: 2}
}

func least() api.Config {
	return api.Config{Servers: []int{255}, Points: 1, Buckets: 1, Block: 1, Room: 1}
}

func greatest() api.Config {
	c := api.Config{F: api.MaxF, Points: api.MaxPoints, Buckets: api.MaxBuckets, Block: api.MaxBlock, Room: api.MaxRoom}
	for id := api.MaxId; len(c.Servers) < api.MaxServers; id -= 3 {
		c.Servers = append(c.Servers, id)
	}
	return c
}

func stamp(n, client int) api.Stamp { return api.Stamp{N: n, Client: client} }

func node(id int) api.Addr { return api.Addr{Id: id} }

func user(id int) api.Addr { return api.Addr{Client: true, Id: id} }

func file(client, op int) api.File { return api.File{Client: client, Op: op} }

func entry(name string, f api.File, size int) api.Entry {
	return api.Entry{Name: name, File: f, Size: size}
}

// block is the key of a block, at of an instance.
func block(f api.File, index int) api.Key {
	return api.Key{Kind: api.KBlock, A: f.Client, B: f.Op, C: index}
}

func at(number, instance int) api.Key {
	return api.Key{Kind: api.KInstance, A: number, B: instance}
}

// The operations.
func create(name string) api.Op { return api.Op{Kind: api.OCreate, Name: name} }
func remove(name string) api.Op { return api.Op{Kind: api.ORemove, Name: name} }
func lookup(name string) api.Op { return api.Op{Kind: api.OLookup, Name: name} }
func list(number int) api.Op    { return api.Op{Kind: api.OList, N: number} }

func setSize(name string, f api.File, size int) api.Op {
	return api.Op{Kind: api.OSetSize, Name: name, File: f, N: size}
}

func grow(name string, f api.File, size int) api.Op {
	return api.Op{Kind: api.OGrow, Name: name, File: f, N: size}
}

func replace(name string, f, with api.File, size int) api.Op {
	return api.Op{Kind: api.OReplace, Name: name, File: f, New: with, N: size}
}

func read(f api.File, index int) api.Op {
	return api.Op{Kind: api.ORead, File: f, N: index}
}

func write(f api.File, index int, data string) api.Op {
	return api.Op{Kind: api.OWrite, File: f, N: index, Data: []byte(data)}
}

// ofEachKind has one operation of each kind, all of which may be.
func ofEachKind(c api.Config) []api.Op {
	data := string(bytes.Repeat([]byte{'d'}, c.Block))
	return []api.Op{
		create("plum"), remove("plum"), lookup("plum"), list(c.Buckets - 1), setSize("plum", file(5, 1), 6),
		grow("plum", file(5, 1), 7), replace("plum", file(5, 1), file(9, 3), 2), read(file(5, 1), 4), write(file(7, 12), 3, data),
	}
}

func isBlock(o api.Op) bool { return o.Kind == api.ORead || o.Kind == api.OWrite }

// rings are those that were made, by their configurations: a ring never changes.
var rings sync.Map

func ringOf(c api.Config) *ring.Ring {
	type form struct {
		servers string
		numbers [5]int
	}
	f := form{numbers: [5]int{c.F, c.Points, c.Buckets, c.Block, c.Room}}
	for _, id := range c.Servers {
		f.servers += string(rune(id))
	}
	if r, there := rings.Load(f); there {
		return r.(*ring.Ring)
	}
	r, err := ring.New(c)
	if err != api.OK {
		panic(err)
	}
	rings.Store(f, r)
	return r
}

// bucketOf is the bucket of an operation that is a command.
func bucketOf(c api.Config, o api.Op) int {
	if o.Kind == api.OList {
		return o.N
	}
	return ringOf(c).Bucket(o.Name)
}

// nameIn finds names by their bucket: the which-th one.
func nameIn(c api.Config, number, which int) string {
	for i := 0; ; i++ {
		name := fmt.Sprint("n", i)
		if bucketOf(c, lookup(name)) != number {
			continue
		}
		if which == 0 {
			return name
		}
		which--
	}
}

func groupOf(c api.Config, k api.Key) []int {
	group, err := ringOf(c).Group(k)
	if err != api.OK {
		panic(fmt.Sprint(k, err))
	}
	return group
}

// commandOf is an operation as a command.
func commandOf(o api.Op, client, op int) api.Command {
	x := api.Command{Kind: o.Kind, Client: client, Op: op, Name: o.Name, File: o.File, New: o.New, Size: o.N}
	if o.Kind == api.OList {
		x.Size = 0
	}
	return x
}

func made(t testing.TB, c api.Config, id int) *client.Client {
	t.Helper()
	m, err := client.New(c, id)
	if err != api.OK || m == nil {
		t.Fatalf("New(%+v, %d): %v", c, id, err)
	}
	return m
}

// fresh is client 5 of the chapter's examples.
func fresh(t testing.TB) *client.Client {
	t.Helper()
	return made(t, four(), me)
}

func encoded(t testing.TB, c api.Config, m api.Msg) []byte {
	t.Helper()
	b, err := msg.Encode(m, c)
	if err != api.OK {
		t.Fatalf("%+v may not be: %v", m, err)
	}
	return b
}

// ask is what client 5 asks: what its messages and their answers bear.
type ask struct {
	op, round, ballot int
	key               api.Key
}

// second is the second phase of an ask.
func (a ask) second() ask {
	a.round++
	return a
}

func (a ask) answer(kind, from int) api.Msg {
	return api.Msg{Kind: kind, From: node(from), To: user(me), Op: a.op, Round: a.round, Key: a.key}
}

func (a ask) value(from int, s api.Stamp, data string) api.Msg {
	m := a.answer(api.MValue, from)
	m.Stamp, m.Block = s, []byte(data)
	return m
}

func (a ask) ack(from int) api.Msg { return a.answer(api.MAck, from) }

func (a ask) promise(from int) api.Msg {
	return a.holding(from, stamp(0, 0), api.Command{})
}

func (a ask) holding(from int, held api.Stamp, x api.Command) api.Msg {
	m := a.answer(api.MPromise, from)
	m.Stamp, m.Held, m.Command = stamp(a.ballot, me), held, x
	return m
}

func (a ask) accepted(from int) api.Msg {
	m := a.answer(api.MAccepted, from)
	m.Stamp = stamp(a.ballot, me)
	return m
}

func (a ask) nack(from, n, client int) api.Msg {
	m := a.answer(api.MNack, from)
	m.Stamp = stamp(n, client)
	return m
}

func (a ask) known(from int, x api.Command) api.Msg {
	m := a.answer(api.MKnown, from)
	m.Command = x
	return m
}

func (a ask) trimmed(from int, b api.Bucket) api.Msg {
	m := a.answer(api.MBucket, from)
	m.Bucket = b
	return m
}

// tells is a message as the client sends it to some servers.
func (a ask) tells(m api.Msg, to []int) []api.Msg {
	var all []api.Msg
	for _, id := range to {
		m.From, m.To, m.Op, m.Round, m.Key = user(me), node(id), a.op, a.round, a.key
		all = append(all, m)
	}
	return all
}

func (a ask) queries(to ...int) []api.Msg { return a.tells(api.Msg{Kind: api.MQuery}, to) }

func (a ask) puts(s api.Stamp, data string, to ...int) []api.Msg {
	return a.tells(api.Msg{Kind: api.MPut, Stamp: s, Block: []byte(data)}, to)
}

func (a ask) prepares(to ...int) []api.Msg {
	return a.tells(api.Msg{Kind: api.MPrepare, Stamp: stamp(a.ballot, me)}, to)
}

func (a ask) accepts(x api.Command, to ...int) []api.Msg {
	return a.tells(api.Msg{Kind: api.MAccept, Stamp: stamp(a.ballot, me), Command: x}, to)
}

func (a ask) learned(x api.Command, to ...int) []api.Msg {
	return a.tells(api.Msg{Kind: api.MLearned, Command: x}, to)
}

// samePackets: no list and an empty one are the same.
func samePackets(a, b []api.Packet) bool {
	return slices.EqualFunc(a, b, func(p, q api.Packet) bool {
		return p.From == q.From && p.Count == q.Count && p.To == q.To && bytes.Equal(p.Data, q.Data)
	})
}

func sameResult(a, b api.Result) bool {
	return a.Err == b.Err && a.Entry == b.Entry && slices.Equal(a.List, b.List) && bytes.Equal(a.Data, b.Data) &&
		a.N == b.N && a.Stamp == b.Stamp && a.Instance == b.Instance
}

func mustPackets(t testing.TB, what string, got, want []api.Packet) {
	t.Helper()
	if !samePackets(got, want) {
		t.Fatalf("%s sends\n%v, not\n%v", what, got, want)
	}
}

// mustSend: just these messages are sent, to the byte.
func mustSend(t testing.TB, c machine, what string, got []api.Packet, want ...api.Msg) {
	t.Helper()
	var packets []api.Packet
	for _, m := range want {
		packets = append(packets, api.Packet{From: user(c.Id()), To: m.To, Data: encoded(t, c.Config(), m)})
	}
	mustPackets(t, what, got, packets)
}

func mustInvoke(t testing.TB, c machine, o api.Op, want ...api.Msg) {
	t.Helper()
	number := c.Number()
	got, err := c.Invoke(o)
	if err != api.OK || c.Number() != number+1 {
		t.Fatalf("Invoke(%+v): %v; the number %d behind %d", o, err, c.Number(), number)
	}
	mustSend(t, c, "Invoke", got, want...)
}

func mustStep(t testing.TB, c machine, m api.Msg, want ...api.Msg) {
	t.Helper()
	mustSend(t, c, "Step", c.Step(encoded(t, c.Config(), m)), want...)
}

// mustPassOver hands messages in for which nothing is sent, and of which nothing comes.
func mustPassOver(t testing.TB, c machine, all ...api.Msg) {
	t.Helper()
	was := told(c)
	for _, m := range all {
		mustStep(t, c, m)
	}
	if now := told(c); now != was {
		t.Fatalf("it tells of itself\n%s, not\n%s", now, was)
	}
}

func mustTick(t testing.TB, c machine, want ...api.Msg) {
	t.Helper()
	mustSend(t, c, "Tick", c.Tick(), want...)
}

// told is all that a client tells of itself as text, but for its news.
func told(c machine) string {
	r, done := c.Done()
	r.List, r.Data = append([]api.Entry{}, r.List...), append([]byte{}, r.Data...)
	return fmt.Sprintf("%+v %v, pending %v, number %d, fallen %v, id %d, %+v", r, done, c.Pending(), c.Number(), c.Fallen(), c.Id(), c.Config())
}

// mustPend looks that the operation has not returned, mustReturn that it has with this.
func mustPend(t testing.TB, c machine) {
	t.Helper()
	if r, done := c.Done(); done || !c.Pending() || !sameResult(r, api.Result{}) {
		t.Fatalf("Done: %+v, %v; Pending: %v", r, done, c.Pending())
	}
}

func mustReturn(t testing.TB, c machine, want api.Result) {
	t.Helper()
	for range 2 {
		if r, done := c.Done(); !done || c.Pending() || !sameResult(r, want) {
			t.Fatalf("Done: %+v, %v; Pending: %v; not %+v", r, done, c.Pending(), want)
		}
	}
	mustTick(t, c)
}

// item is one of a client's news.
type item struct {
	key     api.Key
	command api.Command
}

func newsOf(s iter.Seq2[api.Key, api.Command]) []item {
	var all []item
	for k, x := range s {
		all = append(all, item{k, x})
	}
	return all
}

func mustNews(t testing.TB, c machine, want ...item) {
	t.Helper()
	if got := newsOf(c.News()); !slices.Equal(got, want) {
		t.Fatalf("News: %+v, not %+v", got, want)
	}
	if got := newsOf(c.News()); len(got) > 0 {
		t.Fatalf("News once more: %+v", got)
	}
}

// decide brings a command of client 5 to its end, with the first two of its group.
func decide(t testing.TB, c machine, o api.Op, a ask) {
	t.Helper()
	group := groupOf(c.Config(), a.key)
	x := commandOf(o, me, a.op)
	mustInvoke(t, c, o, a.prepares(group...)...)
	mustPassOver(t, c, a.promise(group[0]))
	mustStep(t, c, a.promise(group[1]), a.second().accepts(x, group...)...)
	mustPassOver(t, c, a.second().accepted(group[0]))
	mustStep(t, c, a.second().accepted(group[1]), a.second().learned(x, group...)...)
	if c.Pending() {
		t.Fatalf("%+v is pending", o)
	}
}

// readIt brings a read to its end, with two servers that have one tag.
func readIt(t testing.TB, c machine, o api.Op, a ask, s api.Stamp, data string) {
	t.Helper()
	group := groupOf(c.Config(), a.key)
	mustInvoke(t, c, o, a.queries(group...)...)
	mustPassOver(t, c, a.value(group[2], s, data))
	mustStep(t, c, a.value(group[0], s, data))
	mustReturn(t, c, api.Result{Stamp: s, Data: []byte(data)})
}

// writeIt brings a write to its end, over blocks of this tag.
func writeIt(t testing.TB, c machine, o api.Op, a ask, held api.Stamp) {
	t.Helper()
	group := groupOf(c.Config(), a.key)
	data, tag := string(o.Data), stamp(held.N+1, me)
	zeros := string(make([]byte, len(data)))
	mustInvoke(t, c, o, a.queries(group...)...)
	mustPassOver(t, c, a.value(group[1], stamp(0, 0), zeros))
	mustStep(t, c, a.value(group[2], held, zeros), a.second().puts(tag, data, group...)...)
	mustPassOver(t, c, a.second().ack(group[0]))
	mustStep(t, c, a.second().ack(group[2]))
	mustReturn(t, c, api.Result{Stamp: tag})
}
