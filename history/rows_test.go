package history_test

import (
	"fmt"
	"maps"
	"slices"
	"sync"
	"testing"

	"cairn/api"
	"cairn/history"
)

// seen is a history, and what is told of it.
type seen struct {
	c      api.Config
	l      []api.Line
	right  api.Errno
	order  []int // of Witness
	ok     bool
	alone  bool
	orders [][]int // of which Legal was asked
	legal  []int
}

func look(c api.Config, l []api.Line, orders ...[]int) seen {
	s := seen{c: c, l: l, right: history.Right(c, l), alone: history.Alone(l), orders: orders}
	s.order, s.ok = history.Witness(c, l)
	for _, order := range append(orders, s.order) {
		s.legal = append(s.legal, history.Legal(c, l, order))
	}
	s.orders = append(orders, s.order)
	return s
}

// unlike holds what was told against a plain history, which may break a rule, and tells where they part.
func (s seen) unlike(wrong string, heard map[string]struct{}) string {
	p := newPlain(s.c, s.l, wrong, heard)
	if p.Right() != s.right {
		return fmt.Sprintf("Right: %v, not %v", s.right, p.Right())
	}
	if order, ok := p.Witness(); ok != s.ok || !slices.Equal(order, s.order) {
		return fmt.Sprintf("Witness: %v %v, not %v %v", s.order, s.ok, order, ok)
	}
	if s.alone != p.Alone() {
		return fmt.Sprintf("Alone: %v, not %v", s.alone, p.Alone())
	}
	for i, order := range s.orders {
		if n, _ := p.Legal(order); n != s.legal[i] {
			return fmt.Sprintf("Legal(%v): %d, not %d", order, s.legal[i], n)
		}
	}
	return ""
}

func (s seen) mustBePlain(t testing.TB) {
	t.Helper()
	if fault := s.unlike("", nil); fault != "" {
		t.Fatalf("%s, of\n%s", fault, words(s.l))
	}
}

// configs are those of the drawn histories.
func configs() []api.Config {
	return []api.Config{
		small(), least(),
		{Servers: []int{30, 10, 20}, F: 1, Points: 2, Buckets: 4, Block: 2, Room: 2},
		{Servers: []int{9, 2, 3, 1, 200}, F: 2, Points: 1, Buckets: 1, Block: 1, Room: 4},
	}
}

// drawn is a history by its seed: every second one is as it was told, the others are spoilt.
func drawn(seed int64) seen {
	t := newTeller(configs()[seed%int64(len(configs()))], seed)
	l := t.told(4 + t.Intn(30))
	if t.oneIn(2) {
		l = t.spoilt(l)
	}
	return look(t.c, l, t.orders(l)...)
}

// manyDrawn are made once.
var manyDrawn = sync.OnceValue(func() []seen {
	all := make([]seen, 18000)
	var work sync.WaitGroup
	for from := range 9 {
		work.Go(func() {
			for i := from; i < len(all); i += 9 {
				all[i] = drawn(int64(i))
			}
		})
	}
	work.Wait()
	return all
})

func TestP1804DrawnHistories(t *testing.T) {
	t.Parallel()
	ends := map[string]int{}
	for _, s := range manyDrawn() {
		s.mustBePlain(t)
		s.count(ends)
	}
	for _, what := range []string{"no history", "no order", "an order", "alone", "not alone", "legal -1", "legal", "reason 1", "reason 2", "reason 3", "reason 4",
		"an open OWrite took place", "an open command took place", "an open one did not", "one with ErrWorn took place"} {
		if ends[what] < 100 {
			t.Errorf("too few of %q to tell: %v", what, ends)
		}
	}
}

// count notes what a history has to show.
func (s seen) count(ends map[string]int) {
	p := newPlain(s.c, s.l, "", nil)
	switch {
	case s.right != api.OK:
		ends["no history"]++
		return
	case s.alone:
		ends["alone"]++
	default:
		ends["not alone"]++
	}
	if s.ok {
		ends["an order"]++
		p.countTook(ends)
	} else {
		ends["no order"]++
	}
	for _, order := range s.orders {
		switch n, reason := p.Legal(order); {
		case reason > 0:
			ends[fmt.Sprintf("reason %d", reason)]++
		case n < 0:
			ends["legal -1"]++
		case n > 0:
			ends["legal"]++
		}
	}
}

func (p plain) countTook(ends map[string]int) {
	took := p.took()
	for _, i := range p.calls() {
		_, there := took[i]
		switch {
		case p.complete(i):
			continue
		case !there:
			ends["an open one did not"]++
		case p.l[i].Op.Kind == api.OWrite:
			ends["an open OWrite took place"]++
		default:
			ends["an open command took place"]++
		}
		if there && p.end(i) >= 0 {
			ends["one with ErrWorn took place"]++
		}
	}
}

// Rules that are broken on purpose: the drawn histories find each of them out, or the short rows.
func TestP1804WrongRulesAreFoundOut(t *testing.T) {
	t.Parallel()
	heard := map[string]struct{}{}
	for _, s := range manyDrawn() {
		s.unlike("", heard)
	}
	rules := slices.Sorted(maps.Keys(heard))
	if len(rules) < 140 {
		t.Errorf("there are only %d rules: %q", len(rules), rules)
	}
	for _, wrong := range rules {
		t.Run(wrong, func(t *testing.T) {
			t.Parallel()
			if !isFoundOut(wrong) {
				t.Error("it is not found out")
			}
		})
	}
}

func isFoundOut(wrong string) bool {
	for _, s := range manyDrawn() {
		if s.unlike(wrong, nil) != "" {
			return true
		}
	}
	for _, a := range alphabets() {
		for s := range a.rows() {
			if s.unlike(wrong, nil) != "" {
				return true
			}
		}
	}
	return false
}
