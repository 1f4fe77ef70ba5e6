package client_test

import (
	"fmt"
	"math"
	"strings"
	"testing"

	"cairn/api"
)

// mustRefuse: nothing that the client tells of itself is changed.
func mustRefuse(t testing.TB, c machine, o api.Op, want api.Errno) {
	t.Helper()
	was := told(c)
	for range 2 {
		if l, err := c.Invoke(o); err != want || len(l) > 0 {
			t.Fatalf("Invoke(%+v): %v, %v; not %v", o, l, err, want)
		}
	}
	if now := told(c); now != was {
		t.Fatalf("refused, it tells of itself\n%s, not\n%s", now, was)
	}
}

// mustMay: a client that was invoked with nothing takes the operation.
func mustMay(t testing.TB, c api.Config, o api.Op) {
	t.Helper()
	m := made(t, c, me)
	if l, err := m.Invoke(o); err != api.OK || len(l) != 2*c.F+1 || m.Number() != 1 || !m.Pending() {
		t.Fatalf("Invoke(%+v): %v, %v", o, l, err)
	}
}

func TestP1402Kinds(t *testing.T) {
	c := fresh(t)
	full := api.Op{Name: "plum", Other: "fig", File: file(5, 1), New: file(5, 2), At: 1, N: 1, Data: []byte("8 bytes.")}
	for kind := -20; kind <= 300; kind++ {
		if kind >= api.OCreate && kind <= api.OWrite {
			continue
		}
		for _, o := range append(ofEachKind(four()), full, api.Op{}, api.Op{Name: "plum", N: 1}, api.Op{Name: "plum", Other: "fig"}) {
			o.Kind = kind
			mustRefuse(t, c, o, api.ErrOp)
		}
	}
	for _, kind := range []int{math.MinInt, math.MaxInt, 1 << 32, 1<<32 + 1, -1 << 32} {
		mustRefuse(t, c, api.Op{Kind: kind, Name: "plum"}, api.ErrOp)
	}
	for _, o := range ofEachKind(four()) {
		mustMay(t, four(), o)
	}
}

// put is something that is not zero in one field.
type put struct {
	field string
	on    func(*api.Op)
}

func puts() []put {
	return []put{
		{"Name", func(o *api.Op) { o.Name = "x" }}, {"Name", func(o *api.Op) { o.Name = "a/b" }}, {"Name", func(o *api.Op) { o.Name = "\x00" }},
		{"Other", func(o *api.Op) { o.Other = "x" }}, {"Other", func(o *api.Op) { o.Other = "\x00" }},
		{"File", func(o *api.Op) { o.File = file(1, 1) }}, {"File", func(o *api.Op) { o.File = file(0, 1) }}, {"File", func(o *api.Op) { o.File = file(-1, 0) }},
		{"New", func(o *api.Op) { o.New = file(1, 1) }}, {"New", func(o *api.Op) { o.New = file(0, -1) }}, {"New", func(o *api.Op) { o.New = file(1, 0) }},
		{"At", func(o *api.Op) { o.At = 1 }}, {"At", func(o *api.Op) { o.At = -1 }}, {"At", func(o *api.Op) { o.At = math.MinInt }},
		{"N", func(o *api.Op) { o.N = 1 }}, {"N", func(o *api.Op) { o.N = -1 }}, {"N", func(o *api.Op) { o.N = math.MaxInt }},
		{"Data", func(o *api.Op) { o.Data = []byte{0} }}, {"Data", func(o *api.Op) { o.Data = make([]byte, 8) }}, {"Data", func(o *api.Op) { o.Data = []byte("8 bytes.") }},
	}
}

// names is what a kind names, as the chapter's table tells it.
func names(kind int) string {
	return map[int]string{
		api.OCreate: "Name", api.ORemove: "Name", api.OLookup: "Name", api.OList: "N",
		api.OSetSize: "Name, File, N", api.OGrow: "Name, File, N", api.OReplace: "Name, File, New, N",
		api.ORead: "File, N", api.OWrite: "File, N, Data",
	}[kind]
}

func isNamed(kind int, field string) bool {
	for n := range strings.SplitSeq(names(kind), ", ") {
		if n == field {
			return true
		}
	}
	return false
}

// Field by field: what a kind does not name must be zero, whatever else may be wrong.
func TestP1402NotNamed(t *testing.T) {
	c := fresh(t)
	tried := 0
	for _, right := range ofEachKind(four()) {
		for _, p := range puts() {
			if isNamed(right.Kind, p.field) {
				continue
			}
			tried++
			o := right
			p.on(&o)
			mustRefuse(t, c, o, api.ErrOp)
			bare := api.Op{Kind: right.Kind} // all that it names is wrong, if it may be
			p.on(&bare)
			mustRefuse(t, c, bare, api.ErrOp)
		}
	}
	if tried < 90 {
		t.Errorf("only %d", tried)
	}
}

// No list and an empty one are the same.
func TestP1402EmptyLists(t *testing.T) {
	for _, o := range ofEachKind(four()) {
		if o.Kind == api.OWrite {
			continue
		}
		for _, none := range [][]byte{nil, {}, make([]byte, 0, 8), []byte("8 bytes.")[:0]} {
			o.Data = none
			mustMay(t, four(), o)
		}
	}
	for _, none := range [][]byte{nil, {}, make([]byte, 0, 8), []byte("8 bytes.")[:0]} {
		mustRefuse(t, fresh(t), api.Op{Kind: api.OWrite, File: file(1, 1), Data: none}, api.ErrBlock)
	}
}

func TestP1402Names(t *testing.T) {
	long := strings.Repeat("n", api.MaxName)
	right := []string{"a", "plum", long, "\x01", "\xff\xfe", "é", ".", "..", " ", "a\nb", strings.Repeat("\xff", api.MaxName)}
	wrong := []string{"", "/", "\x00", "a/b", "/a", "a/", "a\x00b", "\x00a", "a\x00", long + "n", strings.Repeat("n", 1000), long[:254] + "/", long[:254] + "\x00", strings.Repeat("/", 300)}
	for b := range 256 {
		if name := "x" + string([]byte{byte(b)}) + "y"; b == 0 || b == '/' {
			wrong = append(wrong, name)
		} else {
			right = append(right, name)
		}
	}
	c := fresh(t)
	for _, o := range ofEachKind(four()) {
		if !isNamed(o.Kind, "Name") {
			continue
		}
		for _, o.Name = range right {
			mustMay(t, four(), o)
		}
		for _, o.Name = range wrong {
			mustRefuse(t, c, o, api.ErrName)
		}
	}
}

func TestP1402Files(t *testing.T) {
	right := []api.File{file(1, 1), file(255, 1<<40), file(1, 1<<40), file(255, 1), file(5, 1)}
	wrong := []api.File{file(0, 0), file(0, 1), file(1, 0), file(256, 1), file(1, 1<<40+1), file(-1, 1), file(1, -1), file(-1, -1), file(math.MaxInt, math.MaxInt), file(math.MinInt, math.MinInt)}
	c := fresh(t)
	for _, o := range ofEachKind(four()) {
		if !isNamed(o.Kind, "File") {
			continue
		}
		was := o.File
		for _, o.File = range right {
			mustMay(t, four(), o)
		}
		for _, o.File = range wrong {
			mustRefuse(t, c, o, api.ErrArg)
		}
		if o.File = was; !isNamed(o.Kind, "New") {
			continue
		}
		for _, o.New = range right {
			mustMay(t, four(), o)
		}
		for _, o.New = range wrong {
			mustRefuse(t, c, o, api.ErrArg)
		}
	}
}

// bound is the greatest N of a kind, and what is answered beyond it.
func bound(c api.Config, kind int) (int, api.Errno) {
	switch kind {
	case api.OList:
		return c.Buckets - 1, api.ErrBucket
	case api.OSetSize, api.OGrow, api.OReplace:
		return 1 << 20 * c.Block, api.ErrSize
	}
	return 1<<20 - 1, api.ErrIndex
}

func TestP1402N(t *testing.T) {
	for _, config := range []api.Config{four(), seven(), least(), greatest()} {
		c := made(t, config, me)
		for _, o := range ofEachKind(config) {
			if !isNamed(o.Kind, "N") {
				continue
			}
			most, refusal := bound(config, o.Kind)
			for _, o.N = range []int{0, min(1, most), most / 2, max(most-1, 0), most} {
				mustMay(t, config, o)
			}
			for _, o.N = range []int{math.MinInt, -1 << 32, -2, -1, most + 1, most + 2, 1 << 40, 1<<63 - 1} {
				mustRefuse(t, c, o, refusal)
			}
		}
	}
}

func TestP1402Data(t *testing.T) {
	for _, config := range []api.Config{four(), seven(), least(), greatest()} {
		c := made(t, config, me)
		o := api.Op{Kind: api.OWrite, File: file(1, 1)}
		for _, n := range []int{0, 1, config.Block - 1, config.Block + 1, 2 * config.Block, 4095, 4096, 4097, 100000} {
			if o.Data = make([]byte, n); n == config.Block {
				continue
			}
			mustRefuse(t, c, o, api.ErrBlock)
		}
		for _, fill := range []byte{0, 1, '/', 255} {
			o.Data = make([]byte, config.Block, config.Block+3)
			for i := range o.Data {
				o.Data[i] = fill
			}
			mustMay(t, config, o)
		}
	}
}

// A fault is one way to make an operation wrong in a field.
type fault struct {
	field string
	on    func(*api.Op)
}

func faults() []fault {
	return []fault{
		{"Name", func(o *api.Op) { o.Name = "a/b" }}, {"File", func(o *api.Op) { o.File = file(0, 1) }}, {"New", func(o *api.Op) { o.New = file(1, 0) }},
		{"N", func(o *api.Op) { o.N = -1 }}, {"Data", func(o *api.Op) { o.Data = []byte("7 bytes") }},
	}
}

// refusalOf is what a fault in one field is refused with.
func refusalOf(kind int, field string) api.Errno {
	switch field {
	case "Name":
		return api.ErrName
	case "File", "New":
		return api.ErrArg
	case "Data":
		return api.ErrBlock
	}
	_, refusal := bound(four(), kind)
	return refusal
}

// Each set of faults at once: the first in the order of what the kind names is answered; ahead of it a thing that it does not name, a pending operation, a fall.
func TestP1402Order(t *testing.T) {
	all := faults()
	busy, down := fresh(t), fresh(t)
	busy.Invoke(create("plum"))
	down.Invoke(create("plum"))
	down.Stop()
	idle := fresh(t)
	idle.Stop()
	for _, right := range ofEachKind(four()) {
		for set := 1; set < 1<<len(all); set++ {
			o, want := right, api.OK
			fits := true
			for i, f := range all {
				if set&(1<<i) == 0 {
					continue
				}
				if fits = fits && isNamed(o.Kind, f.field); !fits {
					break
				}
				f.on(&o)
				if want == api.OK {
					want = refusalOf(o.Kind, f.field)
				}
			}
			if !fits {
				continue
			}
			c := fresh(t)
			mustRefuse(t, c, o, want)
			for _, more := range puts() {
				other := o
				if !isNamed(o.Kind, more.field) {
					more.on(&other)
					mustRefuse(t, c, other, api.ErrOp)
				}
			}
			mustRefuse(t, busy, o, api.ErrBusy)
			mustRefuse(t, down, o, api.ErrFallen)
			mustRefuse(t, idle, o, api.ErrFallen)
		}
	}
	for _, o := range append(ofEachKind(four()), api.Op{}, api.Op{Kind: api.OCopy, Name: "a", Other: "b"}, api.Op{Kind: api.OList, At: 1}) {
		mustRefuse(t, busy, o, api.ErrBusy)
		mustRefuse(t, down, o, api.ErrFallen)
		mustRefuse(t, idle, o, api.ErrFallen)
	}
}

// wrongOps are refused, each with its error.
func wrongOps() map[api.Errno]api.Op {
	return map[api.Errno]api.Op{
		api.ErrOp: {Kind: api.OReadAt, Name: "plum"}, api.ErrName: create("a/b"), api.ErrArg: read(file(0, 1), 0), api.ErrBucket: list(4),
		api.ErrSize: grow("plum", file(1, 1), -1), api.ErrIndex: read(file(1, 1), 1<<20), api.ErrBlock: write(file(1, 1), 0, "no"),
	}
}

// A client that is refused operations between all that it does goes on like one that is not.
func TestP1402ChangesNothing(t *testing.T) {
	c, twin := fresh(t), fresh(t)
	refuse := func() {
		t.Helper()
		for want, o := range wrongOps() {
			if c.Pending() {
				want = api.ErrBusy
			}
			if c.Fallen() {
				want = api.ErrFallen
			}
			mustRefuse(t, c, o, want)
		}
	}
	r := randomly(41)
	p := newPlain(four(), me, "")
	for range 4000 {
		refuse()
		m := r.call(p)
		want, wantErr := m.on(twin)
		got, err := m.on(c)
		m.on(p)
		if err != wantErr || !samePackets(got, want) || told(c) != told(twin) {
			t.Fatalf("%s: %v, %v, not %v, %v", m.name, got, err, want, wantErr)
		}
		if a, b := fmt.Sprint(newsOf(c.News())), fmt.Sprint(newsOf(twin.News())); a != b {
			t.Fatalf("News: %s, not %s", a, b)
		}
	}
	if c.Number() < 100 {
		t.Errorf("only %d operations", c.Number())
	}
	twin.Stop()
	c.Stop()
	refuse()
}

// What is refused is in no number: the next operation has the one behind the last that was not.
func TestP1402NoNumber(t *testing.T) {
	c := fresh(t)
	for n := 1; n <= 5; n++ {
		for want, o := range wrongOps() {
			mustRefuse(t, c, o, want)
		}
		decide(t, c, create("plum"), ask{op: n, round: 2*n - 1, ballot: n, key: at(3, n)})
		for want, o := range wrongOps() {
			mustRefuse(t, c, o, want)
		}
		if c.Number() != n {
			t.Fatalf("the number %d, not %d", c.Number(), n)
		}
	}
}
