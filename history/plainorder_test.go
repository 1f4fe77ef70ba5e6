package history_test

import (
	"cmp"
	"maps"
	"slices"

	"cairn/api"
	"cairn/file"
)

// end is the place of an operation's return; -1: it has none.
func (p plain) end(i int) int { return p.returnOf(i, len(p.l)) }

func (p plain) complete(i int) bool {
	j := p.end(i)
	return j >= 0 && (p.l[j].Result.Err != api.ErrWorn || p.breaks("a return with ErrWorn is complete"))
}

func (p plain) result(i int) api.Result {
	if j := p.end(i); j >= 0 {
		return p.l[j].Result
	}
	return api.Result{}
}

// calls are the places of the operations.
func (p plain) calls() []int {
	var all []int
	for i, x := range p.l {
		if x.Kind == api.HInvoke {
			all = append(all, i)
		}
	}
	return all
}

// spot is where an operation took place: that of a block by its stamp, of a bucket by its instance.
type spot struct {
	stamp    api.Stamp
	instance int
}

// took is P1802: the operations that took place, and where.
func (p plain) took() map[int]spot {
	all := map[int]spot{}
	for _, i := range p.calls() {
		o := p.l[i].Op
		switch {
		case p.complete(i):
			all[i] = spot{p.result(i).Stamp, p.result(i).Instance}
		case o.Kind == api.OWrite:
			if stamps := p.stampsOf(i); len(stamps) > 0 {
				slices.SortFunc(stamps, p.compareStamps)
				at := 0
				if p.breaks("of several stamps the greatest counts") {
					at = len(stamps) - 1
				}
				all[i] = spot{stamp: stamps[at]}
			}
		case o.Kind == api.ORead, o.Kind == api.OLookup && !p.breaks("an open OLookup may take place"), o.Kind == api.OList && !p.breaks("an open OList may take place"):
		default:
			if at, learned := p.learned(i); learned {
				all[i] = spot{instance: at}
			}
		}
	}
	return all
}

func (p plain) compareStamps(a, b api.Stamp) int {
	if p.breaks("stamps are in order by Client") {
		return cmp.Or(a.Client-b.Client, a.N-b.N)
	}
	if p.breaks("stamps are in order by N alone") {
		return a.N - b.N
	}
	return cmp.Or(a.N-b.N, a.Client-b.Client)
}

// isOf tells whether an operation is of that kind, and of the block of another one.
func (p plain) isOf(i, kind, other int) bool {
	o, q := p.l[i].Op, p.l[other].Op
	sameFile := o.File == q.File || p.breaks("a block is told by its index")
	sameIndex := o.N == q.N || p.breaks("a block is told by its file")
	return o.Kind == kind && sameFile && sameIndex
}

// stampsOf are those that an open OWrite may have.
func (p plain) stampsOf(w int) []api.Stamp {
	var all []api.Stamp
	for _, r := range p.calls() {
		if !p.isOf(r, api.ORead, w) || !p.complete(r) || p.result(r).Err != api.OK {
			continue
		}
		s := p.result(r).Stamp
		if p.passes(
			check{"a stamp of any client will do", s.Client != p.l[w].Client},
			check{"a stamp that a complete OWrite tells will do", p.isTold(s, w)},
			check{"an OWrite behind the read will do", w > p.end(r)},
			check{"an elder open OWrite will do", w < p.end(r) && p.isFollowed(w, p.end(r))},
			p.also("an OWrite behind the invocation of the read will not do", w > r),
			p.also("the first open OWrite counts", p.follows(w)),
			p.also("an OWrite that returned ahead of the read will not do", p.end(w) >= 0 && p.end(w) < p.end(r)),
		) {
			all = append(all, s)
		}
	}
	return all
}

// isTold tells whether a complete OWrite of a block tells the stamp.
func (p plain) isTold(s api.Stamp, w int) bool {
	return slices.ContainsFunc(p.calls(), func(v int) bool {
		ahead := v < w || !p.breaks("a complete OWrite behind it is not looked at")
		return ahead && p.isOf(v, api.OWrite, w) && p.complete(v) && p.result(v).Stamp == s
	})
}

// isFollowed tells whether behind an open OWrite and ahead of that place there is another one, of its client and block.
func (p plain) isFollowed(w, upto int) bool {
	return slices.ContainsFunc(p.calls(), func(v int) bool {
		client := p.l[v].Client == p.l[w].Client || p.breaks("the last open OWrite of all clients counts")
		open := !p.complete(v) || p.breaks("the last OWrite, open or not, counts")
		return w < v && v < upto && client && open && p.isOf(v, api.OWrite, w)
	})
}

func (p plain) follows(w int) bool {
	return slices.ContainsFunc(p.calls(), func(v int) bool { return v < w && p.isFollowed(v, w+1) })
}

// learned is the instance of the first HLearn of an open operation.
func (p plain) learned(i int) (int, bool) {
	x := p.l[i]
	at, found := 0, false
	for j, y := range p.l {
		if y.Kind == api.HLearn && p.passes(
			check{"an HLearn of any bucket will do", y.Key.A != p.bucketOf(x.Op.Name)},
			check{"an HLearn of any Client will do", y.Command.Client != x.Client},
			check{"an HLearn of any Number will do", y.Command.Op != x.Number},
			check{"the last HLearn counts", found},
			p.also("an HLearn ahead of the invocation will not do", j < i),
			p.also("an HLearn behind the return will not do", p.end(i) >= 0 && j > p.end(i)),
			p.also("an HLearn of another kind will not do", y.Command.Kind != x.Op.Kind),
			p.also("an HLearn of another name will not do", y.Command.Name != x.Op.Name),
		) {
			at, found = y.Key.B, true
		}
	}
	return at, found && !p.breaks("no open command takes place")
}

// home tells the block or bucket of an operation.
func (p plain) home(i int) api.Key {
	o := p.l[i].Op
	switch {
	case isBlock(o):
		return api.Key{Kind: api.KBlock, A: o.File.Client, B: o.File.Op, C: o.N}
	case o.Kind == api.OList:
		return api.Key{Kind: api.KBucket, A: o.N}
	}
	return api.Key{Kind: api.KBucket, A: p.bucketOf(o.Name)}
}

// orders are those of P1803, by their blocks and buckets.
func (p plain) orders(took map[int]spot) map[api.Key][]int {
	all := map[api.Key][]int{}
	for _, i := range slices.Sorted(maps.Keys(took)) {
		if isBlock(p.l[i].Op) && p.complete(i) && p.result(i).Err != api.OK {
			continue
		}
		k := p.home(i)
		all[k] = append(all[k], i)
	}
	for k := range all {
		slices.SortStableFunc(all[k], func(i, j int) int { return p.compare(took, i, j) })
	}
	return all
}

func (p plain) compare(took map[int]spot, i, j int) int {
	if !isBlock(p.l[i].Op) {
		return took[i].instance - took[j].instance
	}
	kinds := p.l[j].Op.Kind - p.l[i].Op.Kind // OWrite is above ORead
	if p.breaks("an OWrite stands behind those that read it") {
		kinds = -kinds
	}
	places := i - j
	if p.breaks("reads of one stamp stand by their returns") {
		places = p.end(i) - p.end(j)
	}
	if p.breaks("reads of one stamp stand the other way round") {
		places = j - i
	}
	return cmp.Or(p.compareStamps(took[i].stamp, took[j].stamp), kinds, places)
}

// stand tells whether all orders do.
func (p plain) stand(took map[int]spot) bool {
	for _, i := range p.calls() {
		failed := p.complete(i) && p.result(i).Err != api.OK
		if !p.passes(check{"a block's Err may be any", failed && isBlock(p.l[i].Op)}, p.also("a bucket's Err is OK", failed && !isBlock(p.l[i].Op))) {
			return false
		}
	}
	for _, order := range p.orders(took) {
		for _, i := range order {
			if isBlock(p.l[i].Op) && !p.standsAtBlock(took, order, i) || !isBlock(p.l[i].Op) && !p.standsAtBucket(took, order, i) {
				return false
			}
		}
	}
	return true
}

func (p plain) standsAtBlock(took map[int]spot, order []int, i int) bool {
	s, isWrite := took[i].stamp, p.l[i].Op.Kind == api.OWrite
	others := 0 // OWrites of that stamp
	for _, j := range order {
		if j != i && p.l[j].Op.Kind == api.OWrite && took[j].stamp == s {
			others++
		}
	}
	return p.passes(
		check{"two OWrites may have one stamp", isWrite && others > 0},
		check{"an OWrite may have the stamp of zeros", isWrite && s == api.Stamp{}},
		check{"a stamp may be of nobody", !isWrite && others == 0 && s != api.Stamp{}},
		p.also("the stamp of zeros is somebody's", !isWrite && others == 0),
		p.also("a stamp is its writer's", isWrite && s.Client != p.l[i].Client),
		p.also("a stamp has an N above 0", s.N < 1 && s != api.Stamp{}),
	)
}

func (p plain) standsAtBucket(took map[int]spot, order []int, i int) bool {
	n := took[i].instance
	twice := slices.ContainsFunc(order, func(j int) bool { return j != i && took[j].instance == n })
	return p.passes(
		check{"two may have one instance", twice},
		check{"an instance may be below 1", n < 1}, check{"an instance may be above MaxInstance", n > api.MaxInstance},
		p.also("MaxInstance is no instance", n == api.MaxInstance),
		p.also("instances have no gaps", n > 1 && !slices.ContainsFunc(order, func(j int) bool { return took[j].instance == n-1 })),
	)
}

// Witness is P1804.
func (p plain) Witness() ([]int, bool) {
	if p.Right() != api.OK {
		return nil, false
	}
	took := p.took()
	if !p.stand(took) {
		return nil, false
	}
	orders := p.orders(took)
	left := slices.Sorted(maps.Keys(took))
	if p.breaks("the greatest place comes first") {
		slices.Reverse(left)
	}
	if p.breaks("the first return comes first") {
		slices.SortStableFunc(left, func(i, j int) int { return cmp.Compare(uint(p.end(i)), uint(p.end(j))) })
	}
	var order []int
	for len(left) > 0 {
		at := slices.IndexFunc(left, func(i int) bool {
			return !slices.ContainsFunc(left, func(j int) bool { return p.standsAhead(orders, j, i) })
		})
		if at < 0 && p.breaks("who has one ahead comes all the same") {
			at = 0
		}
		if at < 0 {
			return nil, false
		}
		order = append(order, left[at])
		left = slices.Delete(left, at, at+1)
	}
	return order, true
}

// standsAhead tells whether the one operation stands ahead of the other.
func (p plain) standsAhead(orders map[api.Key][]int, one, other int) bool {
	returned := p.end(one) >= 0 && p.end(one) < other
	switch {
	case p.breaks("a return with ErrWorn sets nothing ahead") && !p.complete(one), p.breaks("real time is not kept"):
		returned = false
	case p.breaks("one's own operations come in any order") && p.l[one].Client == p.l[other].Client:
		returned = false
	case p.breaks("others' operations come in any order") && p.l[one].Client != p.l[other].Client:
		returned = false
	case p.breaks("invocations stand in their order"):
		returned = one < other
	}
	order := orders[p.home(one)]
	i, j := slices.Index(order, one), slices.Index(order, other)
	inOrder := one != other && i >= 0 && j > i
	if p.breaks("the order of a block is not kept") && isBlock(p.l[one].Op) || p.breaks("the order of a bucket is not kept") && !isBlock(p.l[one].Op) {
		inOrder = false
	}
	return returned || inOrder
}

// The reasons of P1805.
const (
	isNone     = 1 + iota // not an operation's place
	isTwice               // it stands in order earlier
	isEarly               // one that has not come yet has returned ahead of it
	isAnswered            // the Model answers otherwise
)

// Legal is P1805, and the reason.
func (p plain) Legal(order []int) (answer, reason int) {
	if p.Right() != api.OK {
		return -2, 0
	}
	m, _ := file.NewModel(p.c)
	for i, place := range order {
		reason := p.reason(m, order, i, place)
		if reason > 0 {
			return i, reason
		}
	}
	for _, i := range p.calls() {
		if !slices.Contains(order, i) && p.complete(i) && !p.breaks("a complete one may be missing") {
			return -1, 0
		}
		if !slices.Contains(order, i) && !p.complete(i) && p.breaks("an open one may not be missing") {
			return -1, 0
		}
	}
	return len(order), 0
}

func (p plain) reason(m *file.Model, order []int, i, place int) int {
	switch {
	case !slices.Contains(p.calls(), place):
		return isNone
	case slices.Contains(order[:i], place) && !p.breaks("one may stand twice"):
		return isTwice
	case p.comesEarly(order, i, place):
		return isEarly
	}
	x := p.l[place]
	if p.breaks("an open one is not done") && !p.complete(place) {
		return 0
	}
	if p.breaks("a refused one is not done") && p.complete(place) && p.result(place).Err != api.OK {
		return 0
	}
	a, b := m.Do(x.Client, x.Number, x.Op), p.result(place)
	same := p.passes(
		check{"Err is not looked at", a.Err != b.Err}, check{"Entry is not looked at", a.Entry != b.Entry},
		check{"List is not looked at", !slices.Equal(a.List, b.List)}, check{"Data is not looked at", !slices.Equal(a.Data, b.Data)},
		check{"N is not looked at", a.N != b.N},
		p.also("Stamp is looked at", a.Stamp != b.Stamp), p.also("Instance is looked at", a.Instance != b.Instance))
	if !same && (p.complete(place) || p.breaks("open ones are answered") && p.end(place) >= 0) {
		return isAnswered
	}
	return 0
}

// comesEarly tells whether an operation that has not come yet has returned ahead of this one.
func (p plain) comesEarly(order []int, i, place int) bool {
	return slices.ContainsFunc(p.calls(), func(other int) bool {
		if slices.Contains(order[:i], other) || p.end(other) < 0 || p.end(other) >= place {
			return false
		}
		return !p.passes(
			check{"a complete one that stands later may have returned", p.complete(other) && slices.Contains(order[i:], other)},
			check{"a complete one that stands nowhere may have returned", p.complete(other) && !slices.Contains(order, other)},
			check{"one with ErrWorn that stands later may have returned", !p.complete(other) && slices.Contains(order[i:], other)},
			p.also("one with ErrWorn that stands nowhere may not have returned", !p.complete(other) && !slices.Contains(order, other)),
		)
	})
}
