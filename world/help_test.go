package world_test

import (
	"bytes"
	"fmt"
	"os"
	"runtime/debug"
	"slices"
	"testing"

	"cairn/api"
	"cairn/msg"
	"cairn/ring"
	"cairn/world"
)

// Worlds are made and looked at by the thousand, and thrown away: with little alive, the collector may wait.
func TestMain(m *testing.M) {
	debug.SetGCPercent(1000)
	os.Exit(m.Run())
}

// scene is a world, or the plain one that it is held against.
type scene interface {
	Do(e api.Event) api.Errno
	Play(l []api.Event) []api.Errno
	History() []api.Line
	Under() []api.Packet
	Image(server int) ([]byte, api.Errno)
	Up(server int) bool
	Pending(client int) bool
	Block(server int, k api.Key) api.Block
	Bucket(server, number int) api.Bucket
	Instance(server int, k api.Key) api.Instance
	Fair(client, exchanges int) int
}

// These stand here to be compiled: the faces have these types.
var (
	_ func(c api.Config, clients []int, sectors int) (*world.World, api.Errno) = world.New
	_ scene                                                                    = (*world.World)(nil)
)

// small is the configuration of the chapter's examples.
func small() api.Config {
	return api.Config{Servers: []int{30, 10, 20}, F: 1, Points: 2, Buckets: 4, Block: 8, Room: 2}
}

// wide has groups in which not all servers stand.
func wide() api.Config {
	return api.Config{Servers: []int{9, 2, 3, 1, 200, 5, 255}, F: 1, Points: 3, Buckets: 3, Block: 3, Room: 2}
}

func least() api.Config {
	return api.Config{Servers: []int{255}, Points: 1, Buckets: 1, Block: 1, Room: 1}
}

func greatest() api.Config {
	c := api.Config{F: api.MaxF, Points: api.MaxPoints, Buckets: api.MaxBuckets, Block: api.MaxBlock, Room: api.MaxRoom}
	for id := api.MaxId; len(c.Servers) < api.MaxServers; id -= 3 {
		c.Servers = append(c.Servers, id)
	}
	return c
}

func made(t testing.TB, c api.Config, sectors int, clients ...int) *world.World {
	t.Helper()
	w, err := world.New(c, clients, sectors)
	if err != api.OK || w == nil {
		t.Fatalf("New(%+v, %v, %d): %v", c, clients, sectors, err)
	}
	return w
}

// fresh is the world of the chapter's examples.
func fresh(t testing.TB) *world.World {
	t.Helper()
	return made(t, small(), 400, 5, 6)
}

func node(id int) api.Addr { return api.Addr{Id: id} }

func user(id int) api.Addr { return api.Addr{Client: true, Id: id} }

func fileOf(client, op int) api.File { return api.File{Client: client, Op: op} }

// The operations.
func create(name string) api.Op { return api.Op{Kind: api.OCreate, Name: name} }
func remove(name string) api.Op { return api.Op{Kind: api.ORemove, Name: name} }
func lookup(name string) api.Op { return api.Op{Kind: api.OLookup, Name: name} }
func list(number int) api.Op    { return api.Op{Kind: api.OList, N: number} }

func read(f api.File, index int) api.Op { return api.Op{Kind: api.ORead, File: f, N: index} }

func write(f api.File, index int, data ...byte) api.Op {
	return api.Op{Kind: api.OWrite, File: f, N: index, Data: data}
}

func writeAt(name string, at int, data ...byte) api.Op {
	return api.Op{Kind: api.OWriteAt, Name: name, At: at, Data: data}
}

func readAt(name string, at, n int) api.Op {
	return api.Op{Kind: api.OReadAt, Name: name, At: at, N: n}
}

func isPart(o api.Op) bool { return o.Kind < api.OReadAt }

func isBlock(o api.Op) bool { return o.Kind == api.ORead || o.Kind == api.OWrite }

// The events.
func invoke(client int, o api.Op) api.Event {
	return api.Event{Kind: api.EInvoke, Client: client, Op: o}
}

func deliver(from api.Addr, n int) api.Event { return api.Event{Kind: api.EDeliver, Addr: from, N: n} }
func lose(from api.Addr, n int) api.Event    { return api.Event{Kind: api.ELose, Addr: from, N: n} }
func double(from api.Addr, n int) api.Event  { return api.Event{Kind: api.EDouble, Addr: from, N: n} }
func tick(client int) api.Event              { return api.Event{Kind: api.ETick, Client: client} }
func fall(server, n int) api.Event           { return api.Event{Kind: api.EFall, Server: server, N: n} }
func start(server int) api.Event             { return api.Event{Kind: api.EStart, Server: server} }
func stop(client int) api.Event              { return api.Event{Kind: api.EStop, Client: client} }
func quota(server, n int) api.Event          { return api.Event{Kind: api.EQuota, Server: server, N: n} }

func tear(server, n, torn int) api.Event {
	return api.Event{Kind: api.ETear, Server: server, N: n, Torn: torn}
}

func trim(server, number, upto int) api.Event {
	return api.Event{Kind: api.ETrim, Server: server, N: number, Upto: upto}
}

func mend(server, other int, k api.Key) api.Event {
	return api.Event{Kind: api.EMend, Server: server, Other: other, Key: k}
}

func junk(server int, data ...byte) api.Event {
	return api.Event{Kind: api.EJunk, Server: server, Data: data}
}

// felled lets a server fall at once.
func felled(server int) []api.Event { return []api.Event{fall(server, 0), junk(server)} }

// again has a server that is up and armed for nothing, whatever it was.
func again(server int) []api.Event { return append(felled(server), start(server)) }

func bucketKey(number int) api.Key { return api.Key{Kind: api.KBucket, A: number} }

func at(number, instance int) api.Key { return api.Key{Kind: api.KInstance, A: number, B: instance} }

func block(f api.File, index int) api.Key {
	return api.Key{Kind: api.KBlock, A: f.Client, B: f.Op, C: index}
}

// message is a message's bytes.
func message(t testing.TB, c api.Config, m api.Msg) []byte {
	t.Helper()
	b, err := msg.Encode(m, c)
	if err != api.OK {
		t.Fatalf("%+v may not be: %v", m, err)
	}
	return b
}

// query is a message that a server of any configuration here may be sent by client 5.
func query(t testing.TB, c api.Config, server int) []byte {
	t.Helper()
	return message(t, c, api.Msg{Kind: api.MQuery, From: user(5), To: node(server), Op: 1, Round: 1, Key: block(fileOf(5, 1), 0)})
}

func ringOf(c api.Config) *ring.Ring {
	r, err := ring.New(c)
	if err != api.OK {
		panic(err)
	}
	return r
}

// keyOf is what an atomic operation asks for: a block, or a bucket.
func keyOf(c api.Config, o api.Op) api.Key {
	switch o.Kind {
	case api.ORead, api.OWrite:
		return block(o.File, o.N)
	case api.OList:
		return bucketKey(o.N)
	}
	return bucketKey(ringOf(c).Bucket(o.Name))
}

func groupOf(c api.Config, k api.Key) []int {
	group, err := ringOf(c).Group(k)
	if err != api.OK {
		panic(fmt.Sprint(k, err))
	}
	return group
}

// nameIn finds a name of a bucket: the which-th one.
func nameIn(c api.Config, number, which int) string {
	for i := 0; ; i++ {
		name := fmt.Sprint("n", i)
		if ringOf(c).Bucket(name) != number {
			continue
		}
		if which--; which < 0 {
			return name
		}
	}
}

// do does events that are all answered OK.
func do(t testing.TB, w scene, all ...api.Event) {
	t.Helper()
	for _, e := range all {
		if err := w.Do(e); err != api.OK {
			t.Fatalf("%+v: %v", e, err)
		}
	}
}

// run has a client's operation return by Fair, and tells its result.
func run(t testing.TB, w scene, client int, o api.Op) api.Result {
	t.Helper()
	do(t, w, invoke(client, o))
	if n := w.Fair(client, 999); n < 1 || w.Pending(client) {
		t.Fatalf("%+v of %d: Fair: %d", o, client, n)
	}
	return lastResult(w, client)
}

// lastResult is that of the last line that a client has returned by.
func lastResult(w scene, client int) api.Result {
	for _, l := range slices.Backward(w.History()) {
		if l.Client == client && (l.Kind == api.HReturn || l.Kind == api.HEnd) {
			return l.Result
		}
	}
	return api.Result{}
}

// deliverAll delivers what is under way, as long as something is.
func deliverAll(t testing.TB, w scene) {
	t.Helper()
	for range 1000 {
		all := w.Under()
		if len(all) == 0 {
			return
		}
		for _, p := range all {
			do(t, w, deliver(p.From, p.Count))
		}
	}
	t.Fatal("there is no end of it")
}

// loseAll loses what is under way.
func loseAll(t testing.TB, w scene) {
	t.Helper()
	for _, p := range w.Under() {
		do(t, w, lose(p.From, p.Count))
	}
}

// names are packets by name, as text.
func names(all []api.Packet) []string {
	list := []string{}
	for _, p := range all {
		list = append(list, fmt.Sprintf("%s%d", addrWord(p.From), p.Count))
	}
	return list
}

func addrWord(a api.Addr) string {
	if a.Client {
		return fmt.Sprintf("c%d.", a.Id)
	}
	return fmt.Sprintf("s%d.", a.Id)
}

func mustUnder(t testing.TB, w scene, want ...string) {
	t.Helper()
	if got := names(w.Under()); !slices.Equal(got, want) {
		t.Fatalf("under way: %v, not %v", got, want)
	}
}

// kinds are those of a history's lines.
func kinds(lines []api.Line) []int {
	var all []int
	for _, l := range lines {
		all = append(all, l.Kind)
	}
	return all
}

// Held against each other, no list and an empty one are the same.

func samePacket(p, q api.Packet) bool {
	return p.From == q.From && p.Count == q.Count && p.To == q.To && bytes.Equal(p.Data, q.Data)
}

func sameResult(a, b api.Result) bool {
	return a.Err == b.Err && a.Entry == b.Entry && slices.Equal(a.List, b.List) && bytes.Equal(a.Data, b.Data) &&
		a.N == b.N && a.Stamp == b.Stamp && a.Instance == b.Instance
}

func sameOp(a, b api.Op) bool {
	return a.Kind == b.Kind && a.Name == b.Name && a.Other == b.Other && a.File == b.File && a.New == b.New && a.At == b.At && a.N == b.N && bytes.Equal(a.Data, b.Data)
}

func sameLine(a, b api.Line) bool {
	return a.Kind == b.Kind && a.Client == b.Client && a.Number == b.Number && sameOp(a.Op, b.Op) && sameResult(a.Result, b.Result) && a.Key == b.Key && a.Command == b.Command
}

func sameBlock(a, b api.Block) bool { return a.Stamp == b.Stamp && bytes.Equal(a.Data, b.Data) }

func sameBucket(a, b api.Bucket) bool {
	return a.Upto == b.Upto && slices.Equal(a.Entries, b.Entries) && slices.Equal(a.Lasts, b.Lasts)
}

// hall is a world's configuration and clients: with these all that there is to see of it can be asked for.
type hall struct {
	c       api.Config
	clients []int
	sectors int
}

func (h hall) made(t testing.TB) *world.World {
	t.Helper()
	return made(t, h.c, h.sectors, h.clients...)
}

// keys are those that a history speaks of, and some more.
func (h hall) keys(lines []api.Line) []api.Key {
	all := []api.Key{{}, bucketKey(0), at(0, 0), at(-1, 1)}
	upto := map[int]int{}
	seen := map[api.Key]int{}
	for _, l := range lines {
		if k := block(l.Op.File, l.Op.N); l.Kind == api.HInvoke && isBlock(l.Op) && seen[k] == 0 {
			seen[k] = 1
			all = append(all, k)
		}
		if l.Kind == api.HLearn {
			upto[l.Key.A] = max(upto[l.Key.A], l.Key.B)
		}
	}
	for number := range h.c.Buckets {
		for n := range upto[number] + 2 {
			all = append(all, at(number, n+1))
		}
	}
	return all
}

// unlike tells the first thing to be seen in which two worlds are not alike.
func (h hall) unlike(a, b scene) string {
	for _, id := range append([]int{0, 77, -1}, h.c.Servers...) {
		x, errX := a.Image(id)
		y, errY := b.Image(id)
		if errX != errY || !bytes.Equal(x, y) {
			return fmt.Sprintf("Image(%d): %d bytes %v, and %d bytes %v", id, len(x), errX, len(y), errY)
		}
	}
	return h.unlikeAtAGlance(a, b)
}

// unlikeAtAGlance does not look at the disks, which takes long.
func (h hall) unlikeAtAGlance(a, b scene) string {
	if x, y := a.Under(), b.Under(); !slices.EqualFunc(x, y, samePacket) {
		return fmt.Sprintf("under way: %v, and %v", names(x), names(y))
	}
	x, y := a.History(), b.History()
	for i := range max(len(x), len(y)) {
		if i >= len(x) || i >= len(y) || !sameLine(x[i], y[i]) {
			return fmt.Sprintf("lines from %d on: %+v, and %+v", i, x[min(i, len(x)):], y[min(i, len(y)):])
		}
	}
	return h.unlikeMachines(a, b, h.keys(x))
}

// unlikeMachines does the same of clients and servers, those that there are not too.
func (h hall) unlikeMachines(a, b scene, keys []api.Key) string {
	for _, id := range append([]int{0, 77, -1}, h.clients...) {
		if x, y := a.Pending(id), b.Pending(id); x != y {
			return fmt.Sprintf("Pending(%d): %v, and %v", id, x, y)
		}
	}
	for _, id := range append([]int{0, 77, -1}, h.c.Servers...) {
		if x, y := a.Up(id), b.Up(id); x != y {
			return fmt.Sprintf("Up(%d): %v, and %v", id, x, y)
		}
		if fault := h.unlikeHeld(a, b, id, keys); fault != "" {
			return fault
		}
	}
	return ""
}

// unlikeHeld does the same of what one server holds.
func (h hall) unlikeHeld(a, b scene, id int, keys []api.Key) string {
	for number := -1; number <= h.c.Buckets; number++ {
		if x, y := a.Bucket(id, number), b.Bucket(id, number); !sameBucket(x, y) {
			return fmt.Sprintf("Bucket(%d, %d): %+v, and %+v", id, number, x, y)
		}
	}
	for _, k := range keys {
		if x, y := a.Block(id, k), b.Block(id, k); !sameBlock(x, y) {
			return fmt.Sprintf("Block(%d, %v): %+v, and %+v", id, k, x, y)
		}
		if x, y := a.Instance(id, k), b.Instance(id, k); x != y {
			return fmt.Sprintf("Instance(%d, %v): %+v, and %+v", id, k, x, y)
		}
	}
	return ""
}

func (h hall) mustBeAlike(t testing.TB, a, b scene) {
	t.Helper()
	if fault := h.unlike(a, b); fault != "" {
		t.Fatal(fault)
	}
}
