package net_test

import (
	"fmt"
	"iter"
	"math/rand"
	"slices"
	"testing"

	"cairn/api"
	"cairn/net"
)

// The calls that rows are made of.
const (
	sends    = iota // from, to, text; count is what is handed in
	delivers        // from, count
	loses           // from, count
	doubles         // from, count
	clears
)

// call is one call of a Net.
type call struct {
	kind  int
	from  api.Addr
	count int
	to    api.Addr
	text  string
}

// answer is what a call answers.
type answer struct {
	count  int
	under  bool
	packet api.Packet
	err    api.Errno
}

// do makes the call.
func (x call) do(n way) answer {
	var got answer
	switch x.kind {
	case sends:
		got.count, got.under = n.Send(packet(x.from, x.count, x.to, x.text))
	case delivers:
		got.packet, got.err = n.Deliver(x.from, x.count)
	case loses:
		got.err = n.Lose(x.from, x.count)
	case doubles:
		got.err = n.Double(x.from, x.count)
	case clears:
		n.Clear()
	}
	return got
}

// unlikeAnswers makes the call of two of them, and tells what they answer otherwise: nothing, if they answer alike.
func (x call) unlikeAnswers(n, m way) string {
	got, want := x.do(n), x.do(m)
	if got.count == want.count && got.under == want.under && got.err == want.err && same(got.packet, want.packet) {
		return ""
	}
	return fmt.Sprintf("%+v: %+v, not %+v", x, got, want)
}

// unlike tells what two of them tell otherwise of what is under way: nothing, if they are alike.
func unlike(n, m way) string {
	if l, k := slices.Collect(n.Under()), slices.Collect(m.Under()); !sameRow(l, k) {
		return fmt.Sprintf("under way %s, not %s", words(l), words(k))
	}
	for _, from := range addrs {
		for _, to := range addrs {
			if i, k := n.Pair(from, to), m.Pair(from, to); i != k {
				return fmt.Sprintf("Pair(%v, %v): %d, not %d", from, to, i, k)
			}
		}
	}
	return ""
}

// play is a row of calls; what is under way is looked at behind each call from looks on.
type play struct {
	row   []call
	looks int
}

// fault plays a row on two of them, and tells the first thing that they tell otherwise.
func (p play) fault(n, m way) string {
	for i, x := range p.row {
		if s := x.unlikeAnswers(n, m); s != "" {
			return fmt.Sprintf("call %d: %s", i, s)
		}
		if i < p.looks {
			continue
		}
		if s := unlike(n, m); s != "" {
			return fmt.Sprintf("behind call %d: %s", i, s)
		}
	}
	return ""
}

// few are calls of which short rows are made.
var few = []call{
	{kind: sends, from: a, to: b, text: "x", count: 5},
	{kind: sends, from: a, to: c, count: -1},
	{kind: sends, from: b, to: a, text: "z"},
	{kind: sends, from: c, to: b, text: "cb"},
	{kind: delivers, from: a, count: 1},
	{kind: delivers, from: a, count: 2},
	{kind: delivers, from: c, count: 1},
	{kind: loses, from: a, count: 1},
	{kind: loses, from: b, count: 1},
	{kind: doubles, from: a, count: 1},
	{kind: doubles, from: a, count: 2},
	{kind: doubles, from: c, count: 1},
	{kind: clears},
}

// every is every row of so many calls behind a beginning. The shorter rows are looked at by themselves.
func every(begin []call, some []call, long int) iter.Seq[play] {
	return func(yield func(play) bool) {
		index := make([]int, long)
		for {
			row := slices.Clone(begin)
			for _, i := range index {
				row = append(row, some[i])
			}
			if !yield(play{row, len(row) - 1}) {
				return
			}
			at := long - 1
			for ; at >= 0 && index[at] == len(some)-1; at-- {
				index[at] = 0
			}
			if at < 0 {
				return
			}
			index[at]++
		}
	}
}

// shortPlays are every row of up to four of the few calls.
func shortPlays(yield func(play) bool) {
	for long := 1; long <= 4; long++ {
		for p := range every(nil, few, long) {
			if !yield(p) {
				return
			}
		}
	}
}

// filled sends so many from one to another.
func filled(row []call, from, to api.Addr, many int) []call {
	for i := range many {
		row = append(row, call{kind: sends, from: from, to: to, text: string(rune('a' + i%26))})
	}
	return row
}

// nearlyFull are beginnings with a way that is full, or nearly.
func nearlyFull() [][]call {
	doubled := filled(nil, a, b, 2)
	for range 61 {
		doubled = append(doubled, call{kind: doubles, from: a, count: 2})
	}
	worn := append(filled(nil, a, b, 64), call{kind: clears})
	return [][]call{
		filled(nil, a, b, 62), filled(nil, a, b, 63), filled(nil, a, b, 64), filled(nil, a, a, 63), filled(filled(nil, a, b, 63), b, a, 63),
		filled(filled(nil, a, b, 64), b, a, 64), filled(filled(filled(nil, a, b, 63), a, c, 10), c, b, 63), doubled, filled(worn, a, b, 63),
	}
}

// fullPlays are every row of three calls behind those beginnings.
func fullPlays(yield func(play) bool) {
	some := []call{
		{kind: sends, from: a, to: b, text: "x"},
		{kind: sends, from: b, to: a},
		{kind: sends, from: a, to: a, text: "aa"},
		{kind: sends, from: c, to: b, text: "cb"},
		{kind: delivers, from: a, count: 1},
		{kind: loses, from: a, count: 2},
		{kind: doubles, from: a, count: 1},
		{kind: doubles, from: a, count: 2},
		{kind: doubles, from: b, count: 1},
		{kind: delivers, from: a, count: 64},
		{kind: doubles, from: a, count: 65},
		{kind: clears},
	}
	for _, begin := range nearlyFull() {
		for p := range every(begin, some, 3) {
			if !yield(p) {
				return
			}
		}
	}
}

// aName is one that is under way, one that was, or one that never is.
func aName(r *rand.Rand, n *plain) (api.Addr, int) {
	switch {
	case len(n.row) > 0 && r.Intn(10) > 0:
		p := n.row[r.Intn(len(n.row))]
		return p.From, p.Count
	case len(n.sent) > 0 && r.Intn(3) > 0:
		p := n.sent[r.Intn(len(n.sent))]
		return p.From, p.Count
	}
	return addrs[r.Intn(len(addrs))], r.Intn(5) - 2 + len(n.sent)
}

// longPlay is a random row: by turns more comes under way than goes, or less.
func longPlay(r *rand.Rand, long int) play {
	n := newPlain(nil)
	var p play
	some := addrs[:1+r.Intn(len(addrs))]
	coming := 6
	for range long {
		if r.Intn(200) == 0 {
			coming = 2 + r.Intn(6)
		}
		var x call
		switch k := r.Intn(10); {
		case r.Intn(500) == 0:
			x.kind = clears
		case k < coming && r.Intn(4) > 0:
			x = call{kind: sends, from: some[r.Intn(len(some))], count: r.Intn(3) - 1, to: some[r.Intn(len(some))], text: "abcdef"[:r.Intn(7)]}
		case k < coming:
			x.kind = doubles
		default:
			x.kind = []int{delivers, loses}[r.Intn(2)]
		}
		if x.kind != sends && x.kind != clears {
			x.from, x.count = aName(r, n)
		}
		x.do(n)
		p.row = append(p.row, x)
	}
	return p
}

// longPlays are random rows, the same at each run.
func longPlays(yield func(play) bool) {
	r := rand.New(rand.NewSource(16))
	for range 30 {
		if !yield(longPlay(r, 1200)) {
			return
		}
	}
}

func mustBePlain(t *testing.T, plays iter.Seq[play], made func() way) {
	t.Helper()
	for p := range plays {
		if s := p.fault(made(), newPlain(nil)); s != "" {
			t.Fatalf("%s\nof %+v", s, p.row)
		}
	}
}

func newNet() way { return net.New() }

func TestP1602EveryShortRow(t *testing.T) {
	t.Parallel()
	mustBePlain(t, shortPlays, newNet)
}

func TestP1602EveryShortRowAtAFullWay(t *testing.T) {
	t.Parallel()
	mustBePlain(t, fullPlays, newNet)
}

func TestP1602LongRows(t *testing.T) {
	t.Parallel()
	mustBePlain(t, longPlays, newNet)
}

// The long rows come to full ways, and away from them: else they would hold less than they seem to.
func TestP1602LongRowsComeToFullWays(t *testing.T) {
	full, lost, doubled := 0, 0, 0
	for p := range longPlays {
		n := newPlain(func(r *rules) {
			r.lost = func(*plain, api.Packet) { lost++ }
			r.doubleFull = func(*plain, []int, api.Packet) api.Errno { doubled++; return api.OK }
		})
		was := false
		for _, x := range p.row {
			x.do(n)
			is := n.Pair(a, a) == api.MaxWay
			if was != is {
				full++
			}
			was = is
		}
	}
	if full < 100 || lost < 100 || doubled < 30 {
		t.Fatalf("from a to a it was full or not full any more %d times; %d packets were lost, %d not doubled", full, lost, doubled)
	}
}

// found tells whether one of the plays finds a broken rule out.
func found(plays iter.Seq[play], change func(r *rules)) bool {
	for p := range plays {
		if p.fault(newPlain(change), newPlain(nil)) != "" {
			return true
		}
	}
	return false
}

// Rules that are broken on purpose are found out by the short rows or by those at a full way, and by the long ones too.
func TestP1602BrokenRulesAreFoundOut(t *testing.T) {
	for _, w := range slices.Concat(wrongSends(), wrongNames(), wrongDoubles(), wrongTells()) {
		t.Run(w.name, func(t *testing.T) {
			t.Parallel()
			if !found(shortPlays, w.change) && !found(fullPlays, w.change) {
				t.Error("no short row finds it out")
			}
			if !found(longPlays, w.change) {
				t.Error("no long row finds it out")
			}
		})
	}
}
