package file_test

import (
	"bytes"
	"fmt"
	"reflect"
	"slices"
	"strings"
	"sync"
	"testing"
	"unsafe"

	"cairn/api"
	"cairn/client"
	"cairn/disk"
	"cairn/file"
	"cairn/ring"
	"cairn/server"
)

// machine is a user, or the plain one that it is held against.
type machine interface {
	Invoke(o api.Op) ([]api.Packet, api.Errno)
	Step(data []byte) []api.Packet
	Tick() []api.Packet
	Done() (api.Result, bool)
	Pending() bool
	Stop()
}

// store is a Model, or the plain one.
type store interface {
	Do(client, number int, o api.Op) api.Result
}

// These stand here to be compiled: the faces have these types.
var (
	_ func(c *client.Client, told func(l api.Line)) *file.User = file.New
	_ func(c api.Config) (*file.Model, api.Errno)              = file.NewModel
	_ func(o api.Op, e api.Entry, block int) int               = file.Parts
	_ machine                                                  = (*file.User)(nil)
	_ store                                                    = (*file.Model)(nil)
)

// me is the client that most tests are of.
const me = 7

// small has two buckets of three names, and blocks of four bytes.
func small() api.Config {
	return api.Config{Servers: []int{30, 10, 20}, F: 1, Points: 2, Buckets: 2, Block: 4, Room: 3}
}

// wide has groups in which not all servers stand.
func wide() api.Config {
	return api.Config{Servers: []int{9, 2, 3, 1, 200, 5, 255}, F: 2, Points: 3, Buckets: 3, Block: 3, Room: 2}
}

func least() api.Config {
	return api.Config{Servers: []int{255}, Points: 1, Buckets: 1, Block: 1, Room: 1}
}

func greatest() api.Config {
	c := api.Config{F: api.MaxF, Points: api.MaxPoints, Buckets: api.MaxBuckets, Block: api.MaxBlock, Room: api.MaxRoom}
	for id := api.MaxId; len(c.Servers) < api.MaxServers; id -= 3 {
		c.Servers = append(c.Servers, id)
	}
	return c
}

func fileOf(client, op int) api.File { return api.File{Client: client, Op: op} }

func entry(name string, f api.File, size int) api.Entry {
	return api.Entry{Name: name, File: f, Size: size}
}

// The operations.
func create(name string) api.Op { return api.Op{Kind: api.OCreate, Name: name} }
func remove(name string) api.Op { return api.Op{Kind: api.ORemove, Name: name} }
func lookup(name string) api.Op { return api.Op{Kind: api.OLookup, Name: name} }
func list(number int) api.Op    { return api.Op{Kind: api.OList, N: number} }

func setSize(name string, f api.File, size int) api.Op {
	return api.Op{Kind: api.OSetSize, Name: name, File: f, N: size}
}

func grow(name string, f api.File, size int) api.Op {
	return api.Op{Kind: api.OGrow, Name: name, File: f, N: size}
}

func replace(name string, f, with api.File, size int) api.Op {
	return api.Op{Kind: api.OReplace, Name: name, File: f, New: with, N: size}
}

func read(f api.File, index int) api.Op { return api.Op{Kind: api.ORead, File: f, N: index} }

func write(f api.File, index int, data ...byte) api.Op {
	return api.Op{Kind: api.OWrite, File: f, N: index, Data: data}
}

func readAt(name string, at, n int) api.Op {
	return api.Op{Kind: api.OReadAt, Name: name, At: at, N: n}
}

func writeAt(name string, at int, data ...byte) api.Op {
	return api.Op{Kind: api.OWriteAt, Name: name, At: at, Data: data}
}

func truncate(name string, n int) api.Op { return api.Op{Kind: api.OTruncate, Name: name, N: n} }

func copyTo(name, other string) api.Op { return api.Op{Kind: api.OCopy, Name: name, Other: other} }

// composites has one operation of each composite kind, all of which may be.
func composites() []api.Op {
	return []api.Op{readAt("oar", 1, 2), writeAt("oar", 1, 8, 9), truncate("oar", 3), copyTo("oar", "peg")}
}

// atomics has one of each atomic kind.
func atomics(c api.Config) []api.Op {
	return []api.Op{
		create("oar"), remove("oar"), lookup("oar"), list(c.Buckets - 1), setSize("oar", fileOf(me, 1), 6), grow("oar", fileOf(me, 1), 7),
		replace("oar", fileOf(me, 1), fileOf(9, 3), 2), read(fileOf(me, 1), 4), write(fileOf(7, 12), 3, bytes.Repeat([]byte{'d'}, c.Block)...),
	}
}

func isPart(o api.Op) bool { return o.Kind < api.OReadAt }

func isBlock(o api.Op) bool { return o.Kind == api.ORead || o.Kind == api.OWrite }

// rings are those that were made, by how many buckets they have: a name's bucket hangs on nothing else.
var rings sync.Map

func ringOf(c api.Config) *ring.Ring {
	if r, there := rings.Load(c.Buckets); there {
		return r.(*ring.Ring)
	}
	r, err := ring.New(c)
	if err != api.OK {
		panic(err)
	}
	rings.Store(c.Buckets, r)
	return r
}

// bucketOf is the bucket of an operation that is a command.
func bucketOf(c api.Config, o api.Op) int {
	if o.Kind == api.OList {
		return o.N
	}
	return ringOf(c).Bucket(o.Name)
}

// commandOf is an operation as a command.
func commandOf(o api.Op, client, op int) api.Command {
	x := api.Command{Kind: o.Kind, Client: client, Op: op, Name: o.Name, File: o.File, New: o.New, Size: o.N}
	if o.Kind == api.OList {
		x.Size = 0
	}
	return x
}

// hall is servers over disks.
type hall struct {
	c  api.Config
	at map[int]*server.Server
}

func newHall(t testing.TB, c api.Config) *hall {
	t.Helper()
	return hallOf(t, c, 1000)
}

// hallOf is one with disks of so many sectors.
func hallOf(t testing.TB, c api.Config, sectors int) *hall {
	t.Helper()
	h := &hall{c, map[int]*server.Server{}}
	for _, id := range c.Servers {
		d, _ := disk.New(sectors)
		s, err := server.New(c, id, d)
		if err != api.OK {
			t.Fatal(err)
		}
		h.at[id] = s
	}
	return h
}

// answers hands packets to their servers, in their order.
func (h *hall) answers(list []api.Packet) []api.Packet {
	var all []api.Packet
	for _, p := range list {
		all = append(all, h.at[p.To.Id].Step(p.Data)...)
	}
	return all
}

// seat is a user in a hall, with all lines that it has made.
type seat struct {
	*hall
	machine
	client *client.Client
	lines  []api.Line
}

func made(t testing.TB, c api.Config, id int) *client.Client {
	t.Helper()
	m, err := client.New(c, id)
	if err != api.OK {
		t.Fatalf("client.New(%+v, %d): %v", c, id, err)
	}
	return m
}

func (h *hall) seat(t testing.TB, id int) *seat {
	t.Helper()
	s := &seat{hall: h, client: made(t, h.c, id)}
	s.machine = file.New(s.client, func(l api.Line) { s.lines = append(s.lines, l) })
	return s
}

// fresh is client 7 in a hall of its own.
func fresh(t testing.TB) *seat {
	t.Helper()
	return newHall(t, small()).seat(t, me)
}

// goOn brings what is under way to its end: what it has sent is answered at once, till nothing is under way.
func (s *seat) goOn(way []api.Packet) {
	for len(way) > 0 {
		var more []api.Packet
		for _, p := range s.answers(way) {
			more = append(more, s.Step(p.Data)...)
		}
		way = more
	}
}

// run is an operation, whole.
func (s *seat) run(t testing.TB, o api.Op) api.Result {
	t.Helper()
	way, err := s.Invoke(o)
	if err != api.OK {
		t.Fatalf("Invoke(%+v): %v", o, err)
	}
	s.goOn(way)
	r, done := s.Done()
	if !done || s.Pending() {
		t.Fatalf("%+v has not returned", o)
	}
	return r
}

// holds is what servers hold of all blocks and buckets, as text.
func (h *hall) holds() string {
	var all []string
	for _, id := range slices.Sorted(slices.Values(h.c.Servers)) {
		for k := range h.at[id].Keys() {
			all = append(all, fmt.Sprintf("%d %v %v %v %v", id, k, h.at[id].Block(k), h.at[id].Instance(k), h.at[id].Bucket(k.A)))
		}
	}
	return strings.Join(all, "\n")
}

// poke puts a number of a client where no test can bring it by what it hands in.
func poke(c *client.Client, field string, n int) {
	f := reflect.ValueOf(c).Elem().FieldByName(field)
	reflect.NewAt(f.Type(), unsafe.Pointer(f.UnsafeAddr())).Elem().SetInt(int64(n))
}

// samePackets: no list and an empty one are the same.
func samePackets(a, b []api.Packet) bool {
	return slices.EqualFunc(a, b, func(p, q api.Packet) bool {
		return p.From == q.From && p.Count == q.Count && p.To == q.To && bytes.Equal(p.Data, q.Data)
	})
}

func sameResult(a, b api.Result) bool {
	return a.Stamp == b.Stamp && a.Instance == b.Instance && sameAnswer(a, b)
}

// sameAnswer: but for Stamp and Instance.
func sameAnswer(a, b api.Result) bool {
	return a.Err == b.Err && a.Entry == b.Entry && slices.Equal(a.List, b.List) && bytes.Equal(a.Data, b.Data) && a.N == b.N
}

func sameOp(a, b api.Op) bool {
	return a.Kind == b.Kind && a.Name == b.Name && a.Other == b.Other && a.File == b.File && a.New == b.New && a.At == b.At && a.N == b.N && bytes.Equal(a.Data, b.Data)
}

func sameLine(a, b api.Line) bool {
	return a.Kind == b.Kind && a.Client == b.Client && a.Number == b.Number && sameOp(a.Op, b.Op) && sameResult(a.Result, b.Result) && a.Key == b.Key && a.Command == b.Command
}

func mustLines(t testing.TB, got []api.Line, want ...api.Line) {
	t.Helper()
	if !slices.EqualFunc(got, want, sameLine) {
		t.Fatalf("lines\n%+v, not\n%+v", got, want)
	}
}

// parts are the operations of HInvoke lines.
func parts(lines []api.Line) []api.Op {
	var all []api.Op
	for _, l := range lines {
		if l.Kind == api.HInvoke {
			all = append(all, l.Op)
		}
	}
	return all
}

// kinds are those of lines.
func kinds(lines []api.Line) []int {
	var all []int
	for _, l := range lines {
		all = append(all, l.Kind)
	}
	return all
}

// mustRun runs an operation, and looks at its result, and at its parts: all of them, and their numbers.
func mustRun(t testing.TB, s *seat, o api.Op, want api.Result, wantParts ...api.Op) {
	t.Helper()
	from, number := len(s.lines), s.client.Number()
	if r := s.run(t, o); !sameResult(r, want) {
		t.Fatalf("%+v: %+v, not %+v", o, r, want)
	}
	lines := s.lines[from:]
	if got := parts(lines); !slices.EqualFunc(got, wantParts, sameOp) {
		t.Fatalf("%+v: parts\n%+v, not\n%+v", o, got, wantParts)
	}
	if fault := misfit(lines, o, s.client.Id(), number, want); fault != "" {
		t.Fatalf("%+v: %s", o, fault)
	}
	if s.client.Number() != number+len(wantParts) {
		t.Fatalf("%+v: the number %d behind %d", o, s.client.Number(), number)
	}
}

// misfit tells what is wrong with the lines of an operation that has returned: which stand where, and what they bear.
func misfit(lines []api.Line, o api.Op, id, number int, r api.Result) string {
	if !isPart(o) {
		last := len(lines) - 1
		if last < 3 || !sameLine(lines[0], api.Line{Kind: api.HBegin, Client: id, Op: o}) || !sameLine(lines[last], api.Line{Kind: api.HEnd, Client: id, Result: r}) {
			return fmt.Sprintf("lines %+v", lines)
		}
		lines = lines[1:last]
	}
	for len(lines) > 0 {
		part := lines[0]
		number++
		if !sameLine(part, api.Line{Kind: api.HInvoke, Client: id, Number: number, Op: part.Op}) {
			return fmt.Sprintf("no HInvoke of %d: %+v", number, part)
		}
		lines = lines[1:]
		for len(lines) > 0 && lines[0].Kind == api.HLearn {
			if !sameLine(lines[0], api.Line{Kind: api.HLearn, Key: lines[0].Key, Command: lines[0].Command}) || lines[0].Key.Kind != api.KInstance {
				return fmt.Sprintf("HLearn: %+v", lines[0])
			}
			lines = lines[1:]
		}
		if len(lines) == 0 || !sameLine(lines[0], api.Line{Kind: api.HReturn, Client: id, Number: number, Result: lines[0].Result}) {
			return fmt.Sprintf("no HReturn of %d: %+v", number, lines)
		}
		if isPart(o) && (!sameOp(part.Op, o) || !sameResult(lines[0].Result, r)) {
			return fmt.Sprintf("%+v, %+v, not %+v", part.Op, lines[0].Result, r)
		}
		if lines = lines[1:]; isPart(o) && len(lines) > 0 {
			return fmt.Sprintf("and more: %+v", lines)
		}
	}
	return ""
}

// told is all that a user tells of itself, as text.
func told(u machine) string {
	r, done := u.Done()
	r.List, r.Data = append([]api.Entry{}, r.List...), append([]byte{}, r.Data...)
	return fmt.Sprintf("%+v %v, pending %v", r, done, u.Pending())
}

func mustPend(t testing.TB, u machine) {
	t.Helper()
	if r, done := u.Done(); done || !u.Pending() || !sameResult(r, api.Result{}) {
		t.Fatalf("Done: %+v, %v; Pending: %v", r, done, u.Pending())
	}
}

func mustReturn(t testing.TB, u machine, want api.Result) {
	t.Helper()
	for range 2 {
		if r, done := u.Done(); !done || u.Pending() || !sameResult(r, want) {
			t.Fatalf("Done: %+v, %v; Pending: %v; not %+v", r, done, u.Pending(), want)
		}
	}
}

func model(t testing.TB, c api.Config) *file.Model {
	t.Helper()
	m, err := file.NewModel(c)
	if err != api.OK || m == nil {
		t.Fatalf("NewModel(%+v): %v", c, err)
	}
	return m
}
