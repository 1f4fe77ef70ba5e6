package history_test

import (
	"slices"
	"strconv"
	"strings"

	"cairn/api"
	"cairn/msg"
)

// plain looks at a history by the words of the chapter, one after the other and without haste. It may break a rule on purpose.
type plain struct {
	c     api.Config
	l     []api.Line
	wrong string              // the rule that it breaks
	heard map[string]struct{} // the rules that it has come by and could have broken; nil: nobody listens
	right api.Errno           // what Right answers
}

func newPlain(c api.Config, l []api.Line, wrong string, heard map[string]struct{}) plain {
	p := plain{c: c, l: l, wrong: wrong, heard: heard}
	p.right = p.judge()
	return p
}

// Right is P1801.
func (p plain) Right() api.Errno { return p.right }

func (p plain) breaks(rule string) bool {
	if p.heard != nil {
		p.heard[rule] = struct{}{}
	}
	return p.wrong == rule
}

// check is something that must not be found.
type check struct {
	rule  string
	found bool
}

// passes tells whether nothing is found, but for what the broken rule is about.
func (p plain) passes(all ...check) bool {
	return !slices.ContainsFunc(all, func(x check) bool { return x.found && (x.rule == "" || !p.breaks(x.rule)) })
}

// also is a check that there is not: only who breaks the rule has it.
func (p plain) also(rule string, found bool) check { return check{"", found && p.breaks(rule)} }

func in(n, least, most int) bool { return least <= n && n <= most }

// isConfig is W2.
func isConfig(c api.Config) bool {
	for i, id := range c.Servers {
		if !in(id, 1, api.MaxId) || slices.Contains(c.Servers[:i], id) {
			return false
		}
	}
	return in(c.F, 0, api.MaxF) && in(len(c.Servers), 2*c.F+1, api.MaxServers) && in(c.Points, 1, api.MaxPoints) &&
		in(c.Buckets, 1, api.MaxBuckets) && in(c.Block, 1, api.MaxBlock) && in(c.Room, 1, api.MaxRoom)
}

// isName is W5.
func isName(s string) bool { return in(len(s), 1, api.MaxName) && !strings.ContainsAny(s, "\x00/") }

func isFile(f api.File) bool { return in(f.Client, 1, api.MaxId) && in(f.Op, 1, api.MaxNum) }

// refused is P1402 of a client with nothing pending, that has not fallen and whose numbers are not used up.
func refused(c api.Config, o api.Op) bool {
	size, index := in(o.N, 0, api.MaxIndex*c.Block), in(o.N, 0, api.MaxIndex-1)
	switch o.Kind {
	case api.OCreate, api.ORemove, api.OLookup:
		return !isName(o.Name) || !sameOp(o, api.Op{Kind: o.Kind, Name: o.Name})
	case api.OList:
		return !in(o.N, 0, c.Buckets-1) || !sameOp(o, api.Op{Kind: o.Kind, N: o.N})
	case api.OSetSize, api.OGrow:
		return !isName(o.Name) || !isFile(o.File) || !size || !sameOp(o, api.Op{Kind: o.Kind, Name: o.Name, File: o.File, N: o.N})
	case api.OReplace:
		return !isName(o.Name) || !isFile(o.File) || !isFile(o.New) || !size || !sameOp(o, api.Op{Kind: o.Kind, Name: o.Name, File: o.File, New: o.New, N: o.N})
	case api.ORead:
		return !isFile(o.File) || !index || !sameOp(o, api.Op{Kind: o.Kind, File: o.File, N: o.N})
	case api.OWrite:
		return !isFile(o.File) || !index || len(o.Data) != c.Block || !sameOp(o, api.Op{Kind: o.Kind, File: o.File, N: o.N, Data: o.Data})
	}
	return true
}

func (p plain) judge() api.Errno {
	if !isConfig(p.c) {
		return api.ErrConfig
	}
	for i := range p.l {
		if !p.fits(i) {
			return api.ErrHistory
		}
	}
	return api.OK
}

// isNamed tells whether a kind names a field, and whether it is not zero.
type isNamed struct {
	field       string
	named, full bool
}

func namedBy(x api.Line) []isNamed {
	k := x.Kind
	return []isNamed{
		{"Client", k != api.HLearn, x.Client != 0},
		{"Number", k == api.HInvoke || k == api.HReturn, x.Number != 0},
		{"Op", k == api.HInvoke || k == api.HBegin, !sameOp(x.Op, api.Op{})},
		{"Result", k == api.HReturn || k == api.HEnd, !sameResult(x.Result, api.Result{})},
		{"Key", k == api.HLearn, x.Key != api.Key{}},
		{"Command", k == api.HLearn, x.Command != api.Command{}},
	}
}

func strayRule(field string, kind int) string {
	return field + " may stray in the kind " + strconv.Itoa(kind)
}

// fits tells whether nothing of the i-th line is wrong.
func (p plain) fits(i int) bool {
	x := p.l[i]
	all := []check{{"a Kind may be above HEnd", x.Kind > api.HEnd}, {"a Kind may be below HInvoke", x.Kind < api.HInvoke}}
	for _, f := range namedBy(x) {
		if f.full && !f.named {
			all = append(all, check{strayRule(f.field, x.Kind), true})
		}
	}
	if x.Kind != api.HLearn {
		all = append(all,
			check{"a Client may be below 1", x.Client < 1}, check{"a Client may be above MaxId", x.Client > api.MaxId},
			p.also("client 255 is none", x.Client == 255))
	}
	switch x.Kind {
	case api.HInvoke:
		all = append(all, p.checksOfInvoke(i)...)
	case api.HReturn:
		all = append(all, check{"a return may come of itself", !p.hasCall(i)})
	case api.HLearn:
		all = append(all, p.checksOfLearn(i)...)
	case api.HBegin:
		all = append(all,
			check{"HBegin may be of any kind", !in(x.Op.Kind, api.OReadAt, api.OCopy)},
			p.also("HBegin is of no OCopy", x.Op.Kind == api.OCopy), p.also("HBegin is of no OReadAt", x.Op.Kind == api.OReadAt),
			p.also("the Op of an HBegin is looked at whole", !isName(x.Op.Name)),
			check{"HBegin may come while one is pending", p.isPending(i)}, check{"HBegin may come twice", p.isBegun(i)})
	case api.HEnd:
		all = append(all, check{"HEnd may come of itself", !p.isBegun(i)}, check{"HEnd may come while one is pending", p.isPending(i)})
	}
	return p.passes(all...)
}

func (p plain) checksOfInvoke(i int) []check {
	x := p.l[i]
	all := []check{
		{"any Op may be invoked", refused(p.c, x.Op)},
		{"a Number may be below 1", x.Number < 1}, {"a Number may be above MaxNum", x.Number > api.MaxNum},
		p.also("MaxNum is no Number", x.Number == api.MaxNum),
		{"one may be invoked while one is pending", p.isPending(i)},
		p.also("one is invoked behind HBegin", !p.isBegun(i)), p.also("none is invoked behind HBegin", p.isBegun(i)),
	}
	last := 0
	for _, y := range p.l[:i] {
		if y.Kind == api.HInvoke && y.Client == x.Client {
			last = y.Number
			all = append(all, check{"Numbers may fall", y.Number > x.Number}, check{"Numbers may stay", y.Number == x.Number})
		}
		all = append(all, p.also("Numbers rise over all clients", y.Kind == api.HInvoke && y.Number >= x.Number))
	}
	return append(all, p.also("Numbers rise by one", x.Number != last+1))
}

func (p plain) checksOfLearn(i int) []check {
	x, k := p.l[i], p.l[i].Key
	all := []check{
		{"any command may be learned", msg.Command(x.Command, p.c) != api.OK},
		{"a key of any kind may be learned", k.Kind != api.KInstance},
		{"what a key does not name may be learned", k.C != 0},
		{"a bucket below 0 may be learned", k.A < 0}, {"a bucket that there is not may be learned", k.A >= p.c.Buckets},
		{"an instance below 1 may be learned", k.B < 1}, {"an instance above MaxInstance may be learned", k.B > api.MaxInstance},
		p.also("MaxInstance is no instance to be learned", k.B == api.MaxInstance),
		p.also("a command is learned in its bucket", x.Command.Kind != api.CList && p.bucketOf(x.Command.Name) != k.A),
	}
	for _, y := range p.l[:i] {
		all = append(all,
			check{"a key may be learned twice", y.Kind == api.HLearn && y.Key == k},
			p.also("an instance's number is learned once", y.Kind == api.HLearn && y.Key.B == k.B),
			p.also("a bucket is learned once", y.Kind == api.HLearn && y.Key.A == k.A),
			p.also("a command is learned once", y.Kind == api.HLearn && y.Command == x.Command))
	}
	return all
}

func (p plain) bucketOf(name string) int { return bucketOf(p.c, name) }

// hasCall tells whether the i-th line is the return of an operation that is pending.
func (p plain) hasCall(i int) bool {
	x := p.l[i]
	for j, y := range p.l[:i] {
		client := y.Client == x.Client || p.breaks("a return may be anybody's")
		number := y.Number == x.Number || p.breaks("a return may have any Number")
		if y.Kind == api.HInvoke && client && number && p.returnOf(j, i) < 0 {
			return true
		}
	}
	return false
}

// returnOf is the place of the return of the operation at the place i, among the lines ahead of the place upto; -1: there is none.
func (p plain) returnOf(i, upto int) int {
	for j := i + 1; j < upto; j++ {
		y := p.l[j]
		if y.Kind == api.HReturn && y.Client == p.l[i].Client && y.Number == p.l[i].Number {
			return j
		}
	}
	return -1
}

// isPending tells whether ahead of the i-th line an operation of its client has no return.
func (p plain) isPending(i int) bool {
	for j, y := range p.l[:i] {
		if y.Kind == api.HInvoke && y.Client == p.l[i].Client && p.returnOf(j, i) < 0 {
			return true
		}
	}
	return false
}

func (p plain) isBegun(i int) bool {
	begun := false
	for _, y := range p.l[:i] {
		if y.Client == p.l[i].Client && (y.Kind == api.HBegin || y.Kind == api.HEnd) {
			begun = y.Kind == api.HBegin
		}
	}
	return begun
}

// Alone is P1806.
func (p plain) Alone() bool {
	for i, x := range p.l {
		if x.Kind != api.HInvoke && x.Kind != api.HBegin {
			continue
		}
		for j, y := range p.l[:i] {
			own, invokes := y.Client == x.Client, x.Kind == api.HInvoke
			left, open := p.isLeft(j, i), p.isLeftOpen(j, i)
			if !p.passes(
				check{"HInvoke may come beside one's own operation", invokes && left && own},
				check{"HInvoke may come beside another's operation", invokes && left && !own},
				check{"HInvoke may come beside another's HBegin", invokes && open && !own},
				check{"HBegin may come beside one's own operation", !invokes && left && own},
				check{"HBegin may come beside another's operation", !invokes && left && !own},
				check{"HBegin may come beside another's HBegin", !invokes && open && !own},
				p.also("HInvoke may not come beside one's own HBegin", invokes && open && own),
				p.also("HBegin may not come beside one's own HBegin", !invokes && open && own),
			) {
				return false
			}
		}
	}
	return true
}

// isLeft tells whether the j-th line is of an operation that has no return ahead of the i-th line.
func (p plain) isLeft(j, i int) bool {
	y := p.l[j]
	returned := slices.ContainsFunc(p.l[j:i], func(z api.Line) bool {
		client := z.Client == y.Client || p.breaks("anybody's return will do")
		number := z.Number == y.Number || p.breaks("a return of any Number will do")
		err := z.Result.Err != api.ErrWorn || !p.breaks("a return with ErrWorn will not do")
		return z.Kind == api.HReturn && client && number && err
	})
	return y.Kind == api.HInvoke && !returned
}

// isLeftOpen does it of an HBegin and its HEnd.
func (p plain) isLeftOpen(j, i int) bool {
	y := p.l[j]
	ended := slices.ContainsFunc(p.l[j:i], func(z api.Line) bool {
		return z.Kind == api.HEnd && (z.Client == y.Client || p.breaks("anybody's HEnd will do"))
	})
	return y.Kind == api.HBegin && !ended
}
