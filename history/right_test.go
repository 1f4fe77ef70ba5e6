package history_test

import (
	"fmt"
	"math"
	"slices"
	"strings"
	"testing"

	"cairn/api"
	"cairn/history"
)

// story is a history with lines of all kinds.
func story() []api.Line {
	c := small()
	a, b := inBucket(c, 0, 0), inBucket(c, 1, 0)
	return []api.Line{
		invoke(1, 1, create(a)),
		begin(2, readAt(b)),
		invoke(2, 4, lookup(b)),
		learn(1, 1, commandOf(2, 4, lookup(b))),
		returns(2, 4, api.Result{Err: api.ErrNotFound, Instance: 1}),
		end(2),
		learn(0, 1, commandOf(1, 1, create(a))),
		returns(1, 1, made(a, 1, 1, 1)),
		invoke(255, api.MaxNum, write(7)),
		invoke(1, 2, read()),
		returns(255, api.MaxNum, worn()),
		returns(1, 2, got(7, 1, 255)),
	}
}

func TestP1801Right(t *testing.T) {
	for i := range len(story()) + 1 {
		mustBeRight(t, small(), story()[:i], api.OK)
	}
	mustTell(t, small(), story(), 0, 2, 8, 9)
	mustBeLegal(t, small(), story(), 4, 0, 2, 8, 9)
}

// A configuration that is not right comes ahead of all else.
func TestP1801Configuration(t *testing.T) {
	change := func(f func(c *api.Config)) api.Config {
		c := small()
		f(&c)
		return c
	}
	for i, c := range []api.Config{
		{},
		change(func(c *api.Config) { c.Servers = nil }),
		change(func(c *api.Config) { c.Servers = []int{1, 2} }),
		change(func(c *api.Config) { c.Servers = []int{1, 2, 2} }),
		change(func(c *api.Config) { c.Servers = []int{0, 1, 2} }),
		change(func(c *api.Config) { c.Servers = []int{1, 2, 256} }),
		change(func(c *api.Config) { c.F = -1 }),
		change(func(c *api.Config) { c.F = 4 }),
		change(func(c *api.Config) { c.Points = 0 }),
		change(func(c *api.Config) { c.Points = 65 }),
		change(func(c *api.Config) { c.Buckets = 0 }),
		change(func(c *api.Config) { c.Buckets = 257 }),
		change(func(c *api.Config) { c.Block = 0 }),
		change(func(c *api.Config) { c.Block = 4097 }),
		change(func(c *api.Config) { c.Room = 0 }),
		change(func(c *api.Config) { c.Room = 257 }),
	} {
		for _, l := range [][]api.Line{nil, story(), {{Kind: 9}}} {
			if err := history.Right(c, l); err != api.ErrConfig {
				t.Errorf("%d: Right: %v", i, err)
			}
			if order, ok := history.Witness(c, l); ok || len(order) > 0 {
				t.Errorf("%d: Witness: %v, %v", i, order, ok)
			}
			if n := history.Legal(c, l, nil); n != -2 {
				t.Errorf("%d: Legal: %d", i, n)
			}
		}
	}
	for _, c := range []api.Config{small(), least(), greatest()} {
		mustBeRight(t, c, nil, api.OK)
		mustBeRight(t, c, []api.Line{{}}, api.ErrHistory)
	}
}

func TestP1801Kinds(t *testing.T) {
	for _, kind := range []int{0, -1, 6, 7, 99, math.MaxInt, math.MinInt} {
		mustBeRight(t, small(), []api.Line{{Kind: kind}}, api.ErrHistory)
		mustBeRight(t, small(), []api.Line{{Kind: kind, Client: 1}}, api.ErrHistory)
		for i := range story() {
			l := story()
			l[i].Kind = kind
			mustBeRight(t, small(), l, api.ErrHistory)
			mustBeRight(t, small(), slices.Insert(story(), i, api.Line{Kind: kind, Client: 1}), api.ErrHistory)
		}
	}
}

// strays are lines with one thing that is not zero, by the field in which it is.
func strays() map[string][]api.Line {
	f := api.File{Op: 1}
	all := map[string][]api.Line{"Client": {{Client: 1}, {Client: -1}}, "Number": {{Number: 1}, {Number: -1}}}
	for _, o := range []api.Op{{Kind: 1}, {Name: "a"}, {Other: "a"}, {File: f}, {New: f}, {At: 1}, {N: -1}, {Data: []byte{0}}} {
		all["Op"] = append(all["Op"], api.Line{Op: o})
	}
	for _, r := range []api.Result{
		{Err: api.ErrWorn}, {Entry: api.Entry{Name: "a"}}, {Entry: api.Entry{File: f}}, {Entry: api.Entry{Size: 1}}, {List: make([]api.Entry, 1)},
		{Data: []byte{0}}, {N: 1}, {Stamp: stamp(1, 0)}, {Stamp: stamp(0, 1)}, {Instance: 1},
	} {
		all["Result"] = append(all["Result"], api.Line{Result: r})
	}
	for _, k := range []api.Key{{Kind: 1}, {A: 1}, {B: 1}, {C: 1}} {
		all["Key"] = append(all["Key"], api.Line{Key: k})
	}
	for _, x := range []api.Command{{Kind: 1}, {Client: 1}, {Op: 1}, {Name: "a"}, {File: f}, {New: f}, {Size: 1}} {
		all["Command"] = append(all["Command"], api.Line{Command: x})
	}
	return all
}

// with is a line with one field of another one.
func with(x, y api.Line, field string) api.Line {
	switch field {
	case "Client":
		x.Client = y.Client
	case "Number":
		x.Number = y.Number
	case "Op":
		x.Op = y.Op
	case "Result":
		x.Result = y.Result
	case "Key":
		x.Key = y.Key
	case "Command":
		x.Command = y.Command
	}
	return x
}

// What a kind does not name is zero: each thing that is not, by itself, in each line.
func TestP1801Strays(t *testing.T) {
	for i, x := range story() {
		for _, f := range namedBy(x) {
			for _, stray := range strays()[f.field] {
				if f.named {
					continue
				}
				l := story()
				l[i] = with(x, stray, f.field)
				mustBeRight(t, small(), l, api.ErrHistory)
				l[i] = with(x, api.Line{}, f.field)
				mustBeRight(t, small(), l, api.OK)
			}
		}
	}
}

// No list and an empty one are the same.
func TestP1801EmptyLists(t *testing.T) {
	l := story()
	for i := range l {
		if len(l[i].Op.Data) == 0 {
			l[i].Op.Data = []byte{}
		}
		if len(l[i].Result.Data) == 0 {
			l[i].Result.Data = []byte{}
		}
		l[i].Result.List = []api.Entry{}
	}
	mustTell(t, small(), l, 0, 2, 8, 9)
	mustBeLegal(t, small(), l, 4, 0, 2, 8, 9)
}

// Client is 1 to MaxId, in all kinds but HLearn.
func TestP1801Clients(t *testing.T) {
	for _, client := range []int{1, 2, 254, api.MaxId, 0, -1, api.MaxId + 1, 1 << 32, math.MaxInt, math.MinInt} {
		want := api.OK
		if client < 1 || client > api.MaxId {
			want = api.ErrHistory
		}
		mustBeRight(t, small(), []api.Line{invoke(client, 1, read())}, want)
		mustBeRight(t, small(), []api.Line{begin(client, readAt("a"))}, want)
		mustBeRight(t, small(), []api.Line{invoke(client, 1, read()), returns(client, 1, worn())}, want)
		mustBeRight(t, small(), []api.Line{begin(client, readAt("a")), end(client)}, want)
	}
}

// An Op is one that an idle client takes.
func TestP1801Ops(t *testing.T) {
	c := small()
	long := strings.Repeat("n", api.MaxName)
	f := api.File{Client: api.MaxId, Op: api.MaxNum}
	most := api.MaxIndex * c.Block
	right := []api.Op{
		create("a"), create(long), remove("\xff"), lookup("a b"), list(0), list(c.Buckets - 1), setSize("a", f, 0), setSize("a", f, most),
		grow("a", f, most), grow(long, theFile(), 1), replace("a", f, f, 0), replace("a", f, theFile(), most),
		readOf(f, 0), readOf(f, api.MaxIndex-1), writeOf(f, 0, 1), writeOf(f, api.MaxIndex-1, 0),
	}
	wrong := []api.Op{
		{}, {Kind: -1}, {Kind: 14}, {Kind: math.MaxInt},
		create(""), create(long + "n"), create("a/b"), create("a\x00"), remove(""), lookup("/"),
		list(-1), list(c.Buckets), setSize("", f, 0), setSize("a", api.File{}, 0), setSize("a", f, -1), setSize("a", f, most+1),
		grow("a", api.File{Client: 256, Op: 1}, 0), grow("a", api.File{Client: 1, Op: api.MaxNum + 1}, 0), grow("a", api.File{Client: 1}, 0), grow("a", f, most+1),
		replace("a", f, api.File{}, 0), replace("a", api.File{}, f, 0), replace("a", f, f, -1), replace("a", f, f, most+1),
		readOf(api.File{Op: 1}, 0), readOf(f, -1), readOf(f, api.MaxIndex), writeOf(f, 0), writeOf(f, 0, 1, 2), writeOf(f, api.MaxIndex, 1), writeOf(api.File{}, 0, 1),
		readAt("a"), {Kind: api.OReadAt}, {Kind: api.OWriteAt, Name: "a"}, {Kind: api.OTruncate, Name: "a"}, {Kind: api.OCopy, Name: "a", Other: "b"},
	}
	for _, o := range right { // and what its kind does not name
		for _, x := range strays()["Op"] {
			with := o
			with.Other, with.At = x.Op.Other, x.Op.At
			if !sameOp(with, o) {
				wrong = append(wrong, with)
			}
		}
	}
	named, sized := create("a"), lookup("a")
	named.File, sized.N = f, 1
	filed, newed, filled := list(0), setSize("a", f, 0), readOf(f, 0)
	filed.Name, newed.New, filled.Data = "a", f, []byte{1}
	wrong = append(wrong, named, sized, filed, newed, filled)
	for i, o := range right {
		mustBeRight(t, c, []api.Line{invoke(1, 1, o)}, api.OK)
		mustBeRight(t, c, []api.Line{invoke(api.MaxId, api.MaxNum, o)}, api.OK)
		if refused(c, o) {
			t.Errorf("%d: the plain one refuses it", i)
		}
	}
	for i, o := range wrong {
		mustBeRight(t, c, []api.Line{invoke(1, 1, o)}, api.ErrHistory)
		if !refused(c, o) {
			t.Errorf("%d: the plain one does not refuse it", i)
		}
	}
}

// The bounds of an Op are the configuration's.
func TestP1801OpsOfOtherConfigurations(t *testing.T) {
	for _, c := range []api.Config{least(), small(), greatest()} {
		data := make([]byte, c.Block)
		for _, x := range []struct {
			o    api.Op
			want api.Errno
		}{
			{list(c.Buckets - 1), api.OK}, {list(c.Buckets), api.ErrHistory},
			{setSize("a", theFile(), api.MaxIndex*c.Block), api.OK}, {setSize("a", theFile(), api.MaxIndex*c.Block+1), api.ErrHistory},
			{write(data...), api.OK}, {write(data[1:]...), api.ErrHistory}, {write(append(data, 0)...), api.ErrHistory},
		} {
			mustBeRight(t, c, []api.Line{invoke(1, 1, x.o)}, x.want)
		}
	}
}

// Numbers are 1 to MaxNum, and rise with each of a client's operations.
func TestP1801Numbers(t *testing.T) {
	for _, n := range []int{0, -1, api.MaxNum + 1, math.MaxInt, math.MinInt} {
		mustBeRight(t, small(), []api.Line{invoke(1, n, read())}, api.ErrHistory)
		mustBeRight(t, small(), append(one(1, 1, read(), got(0, 0, 0)), invoke(1, n, read())), api.ErrHistory)
	}
	for _, n := range []int{1, 2, 77, api.MaxNum - 1, api.MaxNum} {
		first := one(1, n, read(), got(0, 0, 0))
		mustBeRight(t, small(), first, api.OK)
		for _, second := range []int{1, n - 1, n, n + 1, n + 9, api.MaxNum} {
			want := api.OK
			if second <= n || second > api.MaxNum {
				want = api.ErrHistory
			}
			mustBeRight(t, small(), slices.Concat(first, one(1, second, read(), worn())), want)
			// Not above one that is not the last.
			mustBeRight(t, small(), slices.Concat(one(1, api.MaxNum, read(), worn()), one(1, second, read(), worn())), api.ErrHistory)
		}
		for _, other := range []int{1, n, api.MaxNum} {
			mustBeRight(t, small(), slices.Concat(first, one(2, other, read(), worn())), api.OK)
		}
	}
}

// One operation of a client at a time.
func TestP1801Pending(t *testing.T) {
	first := invoke(1, 1, read())
	mustBeRight(t, small(), []api.Line{first, invoke(2, 1, read()), invoke(255, 1, read())}, api.OK)
	for _, l := range [][]api.Line{
		{first, invoke(1, 2, read())},
		{first, invoke(2, 1, read()), invoke(1, 2, read())},
		{first, returns(1, 1, worn()), invoke(1, 2, read()), invoke(1, 3, read())},
		{begin(1, readAt("a")), first, invoke(1, 2, read())},
	} {
		mustBeRight(t, small(), l, api.ErrHistory)
	}
	for _, r := range []api.Result{{}, worn(), {Err: 12345, Instance: -1, N: 9}} {
		mustBeRight(t, small(), []api.Line{first, returns(1, 1, r), invoke(1, 2, read())}, api.OK)
	}
}

func TestP1801Returns(t *testing.T) {
	first := invoke(1, 2, read())
	for _, l := range [][]api.Line{
		{returns(1, 1, worn())},
		{returns(1, 2, worn()), first},
		{first, returns(1, 1, worn())},
		{first, returns(1, 3, worn())},
		{first, returns(2, 2, worn())},
		{first, returns(1, 0, worn())},
		{first, returns(1, 2, worn()), returns(1, 2, worn())},
		{first, returns(1, 2, got(0, 0, 0)), invoke(1, 3, read()), returns(1, 2, worn())},
		{begin(1, readAt("a")), returns(1, 0, api.Result{})},
		{first, invoke(2, 1, read()), returns(2, 2, worn())},
		{first, invoke(2, 1, read()), returns(1, 1, worn())},
	} {
		mustBeRight(t, small(), l, api.ErrHistory)
	}
	mustBeRight(t, small(), []api.Line{first, invoke(2, 1, read()), returns(2, 1, worn()), returns(1, 2, worn())}, api.OK)
}

func TestP1801Learned(t *testing.T) {
	c := small()
	x := commandOf(1, 1, create("a"))
	for _, k := range []api.Key{
		{}, {Kind: api.KBlock, A: 1, B: 1}, {Kind: api.KBucket}, {Kind: api.KBucket, A: 1}, {Kind: 4, B: 1}, {Kind: -3, B: 1},
		{Kind: api.KInstance}, {Kind: api.KInstance, B: -1}, {Kind: api.KInstance, B: api.MaxInstance + 1}, {Kind: api.KInstance, A: -1, B: 1},
		{Kind: api.KInstance, A: c.Buckets, B: 1}, {Kind: api.KInstance, B: 1, C: 1}, {Kind: api.KInstance, B: 1, C: -1},
	} {
		mustBeRight(t, c, []api.Line{{Kind: api.HLearn, Key: k, Command: x}}, api.ErrHistory)
	}
	for _, k := range []api.Key{{Kind: api.KInstance, B: 1}, {Kind: api.KInstance, A: c.Buckets - 1, B: api.MaxInstance}} {
		l := api.Line{Kind: api.HLearn, Key: k, Command: x}
		mustBeRight(t, c, []api.Line{l}, api.OK)
		mustBeRight(t, c, []api.Line{l, l}, api.ErrHistory)
		other := l
		other.Command = commandOf(2, 7, list(0))
		mustBeRight(t, c, []api.Line{l, invoke(1, 1, read()), other}, api.ErrHistory)
	}
	mustBeRight(t, c, []api.Line{learn(0, 1, x), learn(1, 1, x), learn(0, 2, x), learn(1, 2, x)}, api.OK)
	mustBeRight(t, c, []api.Line{learn(0, 1, x), learn(1, 1, x), learn(0, 2, x), learn(1, 1, x)}, api.ErrHistory)
}

func TestP1801LearnedCommands(t *testing.T) {
	f := theFile()
	for _, o := range []api.Op{create("a"), remove("a"), lookup("a"), list(0), setSize("a", f, 1), grow("a", f, 1), replace("a", f, f, 1)} {
		x := commandOf(api.MaxId, api.MaxNum, o)
		mustBeRight(t, small(), []api.Line{learn(1, 9, x)}, api.OK)
		for _, wrong := range []func(x *api.Command){
			func(x *api.Command) { x.Kind = 0 }, func(x *api.Command) { x.Kind = 8 }, func(x *api.Command) { x.Client = 0 }, func(x *api.Command) { x.Client = 256 },
			func(x *api.Command) { x.Op = 0 }, func(x *api.Command) { x.Op = api.MaxNum + 1 }, func(x *api.Command) { x.Name = "a/" + x.Name }, func(x *api.Command) { x.Size = -1 },
			func(x *api.Command) { x.Size = api.MaxIndex + 1 }, func(x *api.Command) { x.File.Op = -1 }, func(x *api.Command) { x.New.Client = 256 },
		} {
			y := x
			wrong(&y)
			mustBeRight(t, small(), []api.Line{learn(1, 9, y)}, api.ErrHistory)
		}
	}
	mustBeRight(t, small(), []api.Line{learn(1, 9, api.Command{})}, api.ErrHistory)
}

// Of an HBegin's Op the kind alone is looked at.
func TestP1801Begins(t *testing.T) {
	for kind := -1; kind <= 15; kind++ {
		want := api.ErrHistory
		if kind >= api.OReadAt && kind <= api.OCopy {
			want = api.OK
		}
		for _, o := range []api.Op{{}, {Name: "a", Other: "b", N: 1}, {Name: "/", At: -1, N: math.MaxInt, File: theFile(), New: theFile(), Data: []byte{1, 2, 3}}} {
			o.Kind = kind
			mustBeRight(t, small(), []api.Line{begin(1, o)}, want)
		}
	}
	b, i := begin(1, readAt("a")), invoke(1, 1, read())
	for _, l := range [][]api.Line{
		{b, b}, {b, begin(1, api.Op{Kind: api.OCopy})}, {i, b}, {b, i, b}, {b, i, returns(1, 1, worn()), b}, {b, end(1), b, b},
		{b, begin(2, readAt("a")), b}, {b, begin(2, readAt("a")), end(2), b},
	} {
		mustBeRight(t, small(), l, api.ErrHistory)
	}
	for _, l := range [][]api.Line{
		{b, begin(2, readAt("a"))}, {b, end(1), b}, {b, i, returns(1, 1, worn()), end(1), b}, {i, begin(2, readAt("a"))}, {i, returns(1, 1, worn()), b}, {invoke(2, 1, read()), b},
	} {
		mustBeRight(t, small(), l, api.OK)
	}
}

func TestP1801Ends(t *testing.T) {
	b, i, r, e := begin(1, readAt("a")), invoke(1, 1, read()), returns(1, 1, worn()), end(1)
	for _, l := range [][]api.Line{
		{e}, {b, end(2)}, {b, e, e}, {b, i, e}, {i, r, e}, {e, b}, {b, e, i, r, e}, {begin(2, readAt("a")), e}, {b, begin(2, readAt("a")), end(2), end(2)},
	} {
		mustBeRight(t, small(), l, api.ErrHistory)
	}
	for _, l := range [][]api.Line{
		{b, e}, {b, i, r, e}, {b, e, i, r, b, e}, {b, begin(2, readAt("a")), e, end(2)}, {b, invoke(2, 1, read()), e},
	} {
		mustBeRight(t, small(), l, api.OK)
	}
}

// What Results hold is not looked at.
func TestP1801Results(t *testing.T) {
	for i, r := range []api.Result{
		{Err: -7, Entry: api.Entry{Name: "/", File: api.File{Client: -1}, Size: -1}, List: make([]api.Entry, 300), Data: make([]byte, 5000), N: -1, Stamp: stamp(-1, 999), Instance: math.MaxInt},
		{Err: api.ErrHistory}, {N: math.MinInt}, {Instance: -1},
	} {
		t.Run(fmt.Sprint(i), func(t *testing.T) {
			mustBeRight(t, small(), []api.Line{
				begin(1, readAt("a")), invoke(1, 1, read()), returns(1, 1, r), {Kind: api.HEnd, Client: 1, Result: r},
			}, api.OK)
		})
	}
}
