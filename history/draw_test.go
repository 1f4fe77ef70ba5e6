package history_test

import (
	"math"
	"math/rand"
	"slices"

	"cairn/api"
	"cairn/file"
	"cairn/history"
)

// teller draws a history: clients, each with one operation at a time, ask a store in which each operation happens at once, some time between its invocation and its return.
type teller struct {
	*rand.Rand
	c         api.Config
	store     *file.Model
	clients   []*asker
	lines     []api.Line
	news      []api.Line // HLearn lines that come later
	tags      map[api.Key]api.Stamp
	instances map[int]int
	polite    bool // one begins when all others are done
	narrow    bool // there is one block, and one bucket
	kinds     []int
}

// asker is a client of a teller.
type asker struct {
	id, number           int
	begun, pending, gone bool
	happened             bool // what it asked last has happened, with this result
	op                   api.Op
	result               api.Result
}

func newTeller(c api.Config, seed int64) *teller {
	store, err := file.NewModel(c)
	if err != api.OK {
		panic(err)
	}
	t := &teller{Rand: rand.New(rand.NewSource(seed)), c: c, store: store, tags: map[api.Key]api.Stamp{}, instances: map[int]int{}}
	for _, id := range []int{1, 2, 255, 7}[:1+t.Intn(4)] {
		t.clients = append(t.clients, &asker{id: id})
	}
	t.polite, t.narrow = t.oneIn(6), t.oneIn(2)
	t.instances[0] = oneOf(t.Rand, 0, 0, 0, api.MaxInstance-3)
	blocks := []int{api.ORead, api.OWrite}
	buckets := []int{api.OCreate, api.OCreate, api.ORemove, api.OLookup, api.OList, api.OSetSize, api.OGrow, api.OReplace}
	t.kinds = oneOf(t.Rand, blocks, buckets, slices.Concat(blocks, blocks, blocks, buckets))
	return t
}

// oneIn tells whether the one of so many is drawn.
func (t *teller) oneIn(n int) bool { return t.Intn(n) == 0 }

func oneOf[T any](r *rand.Rand, all ...T) T { return all[r.Intn(len(all))] }

// upto draws from 0 to n - 1, or 0, if there is but one of each.
func (t *teller) upto(n int) int {
	if t.narrow {
		return 0
	}
	return t.Intn(n)
}

func (t *teller) name() string {
	return inBucket(t.c, t.upto(min(2, t.c.Buckets)), t.Intn(2))
}

func (t *teller) file() api.File { return api.File{Client: 1 + t.Intn(2), Op: 1 + t.Intn(2)} }

func (t *teller) op() api.Op {
	switch kind := oneOf(t.Rand, t.kinds...); kind {
	case api.OCreate, api.ORemove, api.OLookup:
		return api.Op{Kind: kind, Name: t.name()}
	case api.OList:
		return list(t.upto(t.c.Buckets))
	case api.OSetSize, api.OGrow:
		return api.Op{Kind: kind, Name: t.name(), File: t.file(), N: t.Intn(3)}
	case api.OReplace:
		return replace(t.name(), t.file(), t.file(), t.Intn(3))
	case api.ORead:
		return readOf(api.File{Client: 1, Op: 1 + t.upto(2)}, t.upto(2))
	}
	data := make([]byte, t.c.Block)
	t.Read(data)
	return writeOf(api.File{Client: 1, Op: 1 + t.upto(2)}, t.upto(2), data...)
}

// told draws a history of about so many lines.
func (t *teller) told(lines int) []api.Line {
	for range 3 * lines {
		if len(t.lines) >= lines {
			break
		}
		a := oneOf(t.Rand, t.clients...)
		if i := slices.IndexFunc(t.clients, func(b *asker) bool { return b.pending || b.begun }); t.polite && i >= 0 && !t.oneIn(20) {
			a = t.clients[i]
		}
		t.step(a)
	}
	return t.lines
}

func (t *teller) tell(l api.Line) { t.lines = append(t.lines, l) }

func (t *teller) step(a *asker) {
	if len(t.news) > 0 && t.oneIn(3) {
		i := t.Intn(len(t.news))
		t.tell(t.news[i])
		t.news = slices.Delete(t.news, i, i+1)
		return
	}
	switch {
	case a.gone:
	case a.number > 0 && !a.happened && t.oneIn(3): // perhaps it has returned ErrWorn already
		t.happen(a)
	case !a.pending && !a.begun && t.oneIn(9):
		a.begun = true
		t.tell(begin(a.id, oneOf(t.Rand, readAt("a"), api.Op{Kind: api.OWriteAt}, api.Op{Kind: api.OTruncate, At: -1}, api.Op{Kind: api.OCopy, Other: "/"})))
	case !a.pending && a.begun && t.oneIn(4):
		a.begun = false
		t.tell(api.Line{Kind: api.HEnd, Client: a.id, Result: oneOf(t.Rand, api.Result{}, worn(), got(1, 2, 3))})
	case !a.pending:
		t.invoke(a)
	case !a.happened && t.oneIn(12), a.happened && t.oneIn(9):
		t.leave(a, worn())
	case t.oneIn(20):
		a.gone = true
	case a.happened:
		t.leave(a, a.result)
	}
}

func (t *teller) invoke(a *asker) {
	a.number++
	if t.oneIn(5) {
		a.number += oneOf(t.Rand, 1, 2, 3, 4, 5, -1, -2)
	}
	a.pending, a.happened, a.op = true, false, t.op()
	t.tell(invoke(a.id, a.number, a.op))
}

// happen does it in the store.
func (t *teller) happen(a *asker) {
	a.happened, a.result = true, t.store.Do(a.id, a.number, a.op)
	k := api.Key{Kind: api.KBlock, A: a.op.File.Client, B: a.op.File.Op, C: a.op.N}
	switch {
	case a.op.Kind == api.OWrite:
		s := t.tags[k]
		if s.Client >= a.id || t.oneIn(2) {
			s.N += 1 + t.Intn(2)
		}
		t.tags[k] = stamp(max(s.N, 1), a.id)
		a.result.Stamp = t.tags[k]
	case a.op.Kind == api.ORead:
		a.result.Stamp = t.tags[k]
	default:
		b := a.op.N
		if a.op.Kind != api.OList {
			b = bucketOf(t.c, a.op.Name)
		}
		t.instances[b]++
		a.result.Instance = t.instances[b]
		if !t.oneIn(6) {
			t.news = append(t.news, learn(b, t.instances[b], commandOf(a.id, a.number, a.op)))
		}
	}
}

func (t *teller) leave(a *asker, r api.Result) {
	a.pending = false
	t.tell(returns(a.id, a.number, r))
}

// spoilt changes something of some lines.
func (t *teller) spoilt(l []api.Line) []api.Line {
	l = copied(l)
	for range 1 + t.Intn(3) {
		if len(l) > 0 {
			l = t.spoil(l)
		}
	}
	return l
}

func (t *teller) spoil(l []api.Line) []api.Line {
	i, j := t.Intn(len(l)), t.Intn(len(l))
	switch t.Intn(12) {
	case 0:
		return slices.Delete(l, i, i+1)
	case 1:
		return slices.Insert(l, i, copied(l[j:j+1])...)
	case 2:
		l[i], l[j] = l[j], l[i]
	case 3:
		j = max(i-1, 0)
		l[i], l[j] = l[j], l[i]
	case 4:
		i = from(l, i, 1+t.Intn(5))
		l[i] = t.stray(l[i])
	case 5:
		l[i].Client = oneOf(t.Rand, 0, 1, 2, -1, 255, 256, math.MinInt)
		l[i].Number = oneOf(t.Rand, l[i].Number, l[i].Number, 0, 1)
	case 6:
		l[i].Number = oneOf(t.Rand, 0, 1, 2, l[i].Number+1, -1, api.MaxNum, api.MaxNum+1, math.MaxInt)
	case 7:
		l[i].Op = t.wrongOp(l[i].Op)
	case 8:
		x := t.wrongLearn()
		if l[j].Kind == api.HLearn && t.oneIn(2) {
			x.Command = l[j].Command
		}
		return slices.Insert(l, i, x)
	default:
		// Of returns mostly: what they tell decides on the orders.
		i = from(l, i, api.HReturn)
		other := l[j].Result // another return's, perhaps
		l[i].Result = t.wrongResult(l[i].Result)
		if t.oneIn(3) {
			l[i].Result.Stamp, l[i].Result.Instance = other.Stamp, other.Instance
		}
	}
	return l
}

// from is the first line of a kind from the i-th on, behind the last one from the first on; the i-th, if there is none.
func from(l []api.Line, i, kind int) int {
	for n := range l {
		if at := (i + n) % len(l); l[at].Kind == kind {
			return at
		}
	}
	return i
}

// stray sets a field to something, whatever the kind names; or the kind.
func (t *teller) stray(x api.Line) api.Line {
	n := oneOf(t.Rand, 1, -1, 7)
	switch t.Intn(10) {
	case 0:
		x.Kind = oneOf(t.Rand, 0, 1, 2, 3, 4, 5, 6, -1, math.MaxInt)
	case 1:
		x.Client = n
	case 2:
		x.Number = n
	case 3:
		x.Op = oneOf(t.Rand, api.Op{Kind: n}, api.Op{N: n}, api.Op{Data: []byte{}}, t.op(), readAt("a"))
	case 4:
		x.Result = oneOf(t.Rand, api.Result{Err: api.Errno(n)}, api.Result{List: []api.Entry{}, Data: []byte{}}, api.Result{Stamp: stamp(n, 0)}, api.Result{Instance: n})
	case 5:
		x.Key = api.Key{Kind: oneOf(t.Rand, 1, 2, 3), A: n, B: t.Intn(2), C: t.Intn(2)}
	case 6:
		x.Command = oneOf(t.Rand, api.Command{Op: n}, commandOf(1, 1, create("a")))
	case 7:
		x.Op.Data = []byte{}
	case 8:
		x.Result.List, x.Result.Data = []api.Entry{}, []byte{}
	case 9:
		return api.Line{Kind: oneOf(t.Rand, 0, 6, -1, math.MaxInt), Client: 1}
	}
	return x
}

func (t *teller) wrongOp(o api.Op) api.Op {
	switch t.Intn(6) {
	case 0:
		o.Kind = t.Intn(15)
	case 1:
		o.Name = oneOf(t.Rand, "", "a", "/", "b\x00")
	case 2:
		o.File = oneOf(t.Rand, api.File{}, api.File{Client: 1}, theFile())
	case 3:
		o.N = oneOf(t.Rand, -1, 0, 1, t.c.Buckets, api.MaxIndex, math.MaxInt)
	case 4:
		o.Data = make([]byte, t.Intn(3))
	case 5:
		return t.op()
	}
	return o
}

func (t *teller) wrongResult(r api.Result) api.Result {
	switch t.Intn(9) {
	case 0:
		r.Err = oneOf(t.Rand, api.OK, api.ErrWorn, api.ErrWorn, api.ErrExists, api.ErrRoom)
	case 1, 2:
		r.Stamp = oneOf(t.Rand, stamp(0, 0), stamp(1, 1), stamp(1, 2), stamp(2, 1), stamp(2, 2), stamp(0, 1), stamp(-1, 2), stamp(3, 1))
	case 3, 4:
		r.Instance = oneOf(t.Rand, 0, 1, 2, 3, r.Instance+1, r.Instance-1, api.MaxInstance, api.MaxInstance+1, -1)
	case 5:
		r.Data = make([]byte, t.Intn(3))
	case 6:
		r.Entry.Size++
	case 7:
		r.List = append(r.List, api.Entry{Name: "a"})
	case 8:
		r.N++
	}
	return r
}

func (t *teller) wrongLearn() api.Line {
	x := learn(t.Intn(t.c.Buckets), 1+t.Intn(4), commandOf(oneOf(t.Rand, 1, 2, 255), 1+t.Intn(4), create(t.name())))
	switch t.Intn(9) {
	case 0:
		x.Key.Kind = oneOf(t.Rand, 0, api.KBlock, api.KBucket, 4)
	case 1:
		x.Key.A = oneOf(t.Rand, -1, t.c.Buckets)
	case 2:
		x.Key.B = oneOf(t.Rand, 0, -1, api.MaxInstance, api.MaxInstance+1)
	case 3:
		x.Key.C = 1
	case 4:
		x.Command = oneOf(t.Rand, api.Command{}, commandOf(0, 1, create("a")), commandOf(1, 1, create("")), commandOf(1, 1, list(0)))
	}
	return x
}

// orders draws some that Legal may be asked for.
func (t *teller) orders(l []api.Line) [][]int {
	order, _ := history.Witness(t.c, l)
	all := [][]int{order, nil, calls(l)}
	for range 6 {
		all = append(all, t.wrongOrder(l, oneOf(t.Rand, order, order, calls(l))))
	}
	return all
}

// calls are the places of the operations.
func calls(l []api.Line) []int {
	var all []int
	for i, x := range l {
		if x.Kind == api.HInvoke {
			all = append(all, i)
		}
	}
	return all
}

func (t *teller) wrongOrder(l []api.Line, order []int) []int {
	order = slices.Clone(order)
	for range 1 + t.Intn(2) {
		if len(order) == 0 {
			return []int{t.Intn(len(l)+3) - 1}
		}
		i, j := t.Intn(len(order)), t.Intn(len(order))
		switch t.Intn(6) {
		case 0:
			order[i], order[j] = order[j], order[i]
		case 1:
			order = slices.Insert(order, i, order[j])
		case 2:
			order = slices.Delete(order, i, i+1)
		case 3:
			order = slices.Insert(order, i, oneOf(t.Rand, -1, len(l), t.Intn(len(l)), math.MaxInt, math.MinInt))
		case 4:
			order = slices.Insert(order, i, oneOf(t.Rand, calls(l)...)) // an open one, perhaps
		case 5:
			order = order[:i]
		}
	}
	return order
}
