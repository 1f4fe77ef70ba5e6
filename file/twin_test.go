package file_test

import (
	"fmt"
	"maps"
	"math/rand"
	"slices"
	"strings"
	"testing"

	"cairn/api"
	"cairn/client"
	"cairn/file"
)

// twin is a user, with the chapter's words beside it: each call is made of both, and all that they tell is held against each other.
type twin struct {
	machine
	words  *plain
	lines  []api.Line // of the words
	seat   *seat
	fault  string
	looked int // lines that were held against each other
}

// twins has a client for each side: the words' own is not the user's.
func (h *hall) twins(t testing.TB, id int, wrong string) *seat {
	t.Helper()
	s := &seat{hall: h, client: made(t, h.c, id)}
	x := &twin{seat: s}
	x.machine = file.New(s.client, func(l api.Line) { s.lines = append(s.lines, l) })
	x.words = newPlain(made(t, h.c, id), wrong, func(l api.Line) { x.lines = append(x.lines, l) })
	s.machine = x
	return s
}

func (s *seat) twin() *twin { return s.machine.(*twin) }

// fault is the first one that was found.
func (s *seat) fault() string { return s.twin().fault }

// set pokes a number of both clients.
func (s *seat) set(field string, n int) {
	for _, c := range []*client.Client{s.client, s.twin().words.c} {
		poke(c, field, n)
	}
}

func (x *twin) says(format string, a ...any) {
	if x.fault == "" {
		x.fault = fmt.Sprintf(format, a...)
	}
}

// look holds what a call has told against the words.
func (x *twin) look(name string, got, want []api.Packet) {
	if !samePackets(got, want) {
		x.says("%s sends\n%v, not\n%v", name, got, want)
	}
	if a, b := told(x.machine), told(x.words); a != b {
		x.says("%s: it tells of itself\n%s, not\n%s", name, a, b)
	}
	for ; x.looked < len(x.seat.lines) || x.looked < len(x.lines); x.looked++ {
		if x.looked >= len(x.seat.lines) || x.looked >= len(x.lines) || !sameLine(x.seat.lines[x.looked], x.lines[x.looked]) {
			x.says("%s: lines\n%+v, not\n%+v", name, x.seat.lines[min(x.looked, len(x.seat.lines)):], x.lines[min(x.looked, len(x.lines)):])
		}
	}
	if x.seat.client.Number() != x.words.c.Number() {
		x.says("%s: the number %d, not %d", name, x.seat.client.Number(), x.words.c.Number())
	}
}

func (x *twin) Invoke(o api.Op) ([]api.Packet, api.Errno) {
	got, err := x.machine.Invoke(o)
	want, wantErr := x.words.Invoke(o)
	if err != wantErr {
		x.says("Invoke(%+v): %v, not %v", o, err, wantErr)
	}
	x.look("Invoke", got, want)
	return got, err
}

func (x *twin) Step(data []byte) []api.Packet {
	got := x.machine.Step(data)
	x.look("Step", got, x.words.Step(data))
	return got
}

func (x *twin) Tick() []api.Packet {
	got := x.machine.Tick()
	x.look("Tick", got, x.words.Tick())
	return got
}

func (x *twin) Stop() {
	x.machine.Stop()
	x.words.Stop()
	x.look("Stop", nil, nil)
}

func mustAgree(t testing.TB, s *seat) {
	t.Helper()
	if s.fault() != "" {
		t.Fatal(s.fault())
	}
}

// lot draws operations.
type lot struct{ *rand.Rand }

func randomly(seed int64) lot { return lot{rand.New(rand.NewSource(seed))} }

func oneOf[T any](r lot, of ...T) T { return of[r.Intn(len(of))] }

var fewNames = []string{"oar", "peg", "a", "bb", "\xff\xfe", "plum", "fig"}

func (r lot) name() string {
	if r.Intn(25) == 0 {
		return oneOf(r, "", "a/b", strings.Repeat("n", 255), strings.Repeat("n", 256), "x\x00")
	}
	return oneOf(r, fewNames...)
}

// there is a name that is there, mostly.
func (r lot) there(s *plainStore) string {
	if len(s.entries) == 0 || r.Intn(4) == 0 {
		return r.name()
	}
	return oneOf(r, slices.Sorted(maps.Keys(s.entries))...)
}

// place is a byte of a file: at a block's edge, or at the size, or beside these, mostly.
func (r lot) place(c api.Config, size int) int {
	edge := oneOf(r, 0, size, c.Block*r.Intn(4), c.Block)
	if r.Intn(60) == 0 {
		return oneOf(r, -1, 1<<20*c.Block+1, 1<<62)
	}
	return max(0, edge+oneOf(r, 0, 0, -1, 1, r.Intn(3)))
}

func (r lot) bytes(n int) []byte {
	data := make([]byte, n)
	for i := range data {
		data[i] = byte(1 + r.Intn(255))
	}
	return data
}

// file is one that an entry has, mostly, or had.
func (r lot) file(s *plainStore) api.File {
	if e, there := s.entries[r.there(s)]; there && r.Intn(4) > 0 {
		return e.File
	}
	return fileOf(oneOf(r, me, 1, 255), 1+r.Intn(20))
}

// atomic is one of the nine.
func (r lot) atomic(s *plainStore) api.Op {
	name, size := r.there(s), r.Intn(5*s.c.Block)
	f := r.file(s)
	if e, there := s.entries[name]; there && r.Intn(5) > 0 {
		f = e.File
	}
	return oneOf(r, create(r.name()), create(r.name()), remove(name), lookup(name), list(r.Intn(s.c.Buckets)), setSize(name, f, size), grow(name, f, size),
		replace(name, f, r.file(s), size), read(f, r.Intn(5)), write(f, r.Intn(4), r.bytes(s.c.Block)...))
}

// byName is one of those by which names are names of rows of bytes.
func (r lot) byName(s *plainStore) api.Op {
	name := r.there(s)
	size := s.entries[name].Size
	at := r.place(s.c, size)
	switch n := r.Intn(16); {
	case n < 2:
		return create(r.name())
	case n == 2:
		return oneOf(r, remove(name), remove(name), lookup(name), list(r.Intn(s.c.Buckets)))
	case n < 6:
		return readAt(name, at, r.place(s.c, size))
	case n < 11:
		return writeAt(name, at, r.bytes(oneOf(r, 0, 1, s.c.Block, r.Intn(3*s.c.Block), r.Intn(8)))...)
	case n < 14:
		return truncate(name, oneOf(r, at, at, size))
	}
	return copyTo(name, r.name())
}

// put is something that is not zero in one field.
type put struct {
	field string
	on    func(*api.Op)
}

func puts() []put {
	return []put{
		{"Name", func(o *api.Op) { o.Name = "x" }}, {"Name", func(o *api.Op) { o.Name = "a/b" }}, {"Name", func(o *api.Op) { o.Name = "\x00" }},
		{"Other", func(o *api.Op) { o.Other = "x" }}, {"Other", func(o *api.Op) { o.Other = "\x00" }}, {"Other", func(o *api.Op) { o.Other = "a/b" }},
		{"File", func(o *api.Op) { o.File = fileOf(1, 1) }}, {"File", func(o *api.Op) { o.File = fileOf(0, 1) }}, {"File", func(o *api.Op) { o.File = fileOf(-1, 0) }},
		{"New", func(o *api.Op) { o.New = fileOf(1, 1) }}, {"New", func(o *api.Op) { o.New = fileOf(0, -1) }}, {"New", func(o *api.Op) { o.New = fileOf(1, 0) }},
		{"At", func(o *api.Op) { o.At = 1 }}, {"At", func(o *api.Op) { o.At = -1 }}, {"At", func(o *api.Op) { o.At = -1 << 63 }}, {"At", func(o *api.Op) { o.At = 1<<63 - 1 }},
		{"N", func(o *api.Op) { o.N = 1 }}, {"N", func(o *api.Op) { o.N = -1 }}, {"N", func(o *api.Op) { o.N = -1 << 63 }}, {"N", func(o *api.Op) { o.N = 1<<63 - 1 }},
		{"Data", func(o *api.Op) { o.Data = []byte{0} }}, {"Data", func(o *api.Op) { o.Data = make([]byte, 4) }}, {"Data", func(o *api.Op) { o.Data = []byte{1, 2, 3} }},
	}
}

// op is of any kind; some have something wrong.
func (r lot) op(s *plainStore) api.Op {
	o := r.byName(s)
	if r.Intn(3) == 0 {
		o = r.atomic(s)
	}
	if p := oneOf(r, puts()...); r.Intn(50) == 0 || r.Intn(9) == 0 && isNamed(o.Kind, p.field) {
		p.on(&o)
	}
	if r.Intn(60) == 0 {
		o.Kind = r.Intn(17) - 1
	}
	return o
}
