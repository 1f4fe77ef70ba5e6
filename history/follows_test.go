package history_test

import (
	"testing"

	"cairn/api"
	"cairn/file"
	"cairn/history"
)

// An order that Witness tells is one but for what the Model answers.
func TestP1807OnlyTheModelObjects(t *testing.T) {
	t.Parallel()
	orders, places := 0, 0
	for _, s := range manyDrawn() {
		if !s.ok {
			continue
		}
		orders++
		p := newPlain(s.c, s.l, "", nil)
		n, reason := p.Legal(s.order)
		if got := history.Legal(s.c, s.l, s.order); got != n || n < 0 || reason != 0 && reason != isAnswered {
			t.Fatalf("Legal(%v): %d, by the reason %d, of\n%s", s.order, got, reason, words(s.l))
		}
		if reason == isAnswered {
			places++
		}
	}
	if orders < 1000 || places < 100 {
		t.Errorf("too few to tell: %d orders, %d of which the Model answers otherwise", orders, places)
	}
}

// With the answers that the Model gives in that order, it is legal whole.
func TestP1807AnsweredByTheModel(t *testing.T) {
	t.Parallel()
	orders := 0
	for _, s := range manyDrawn() {
		if !s.ok {
			continue
		}
		l := answered(s.c, s.l, s.order)
		mustTell(t, s.c, l, s.order...)
		mustBeLegal(t, s.c, l, len(s.order), s.order...)
		orders++
	}
	if orders < 1000 {
		t.Errorf("too few orders to tell: %d", orders)
	}
}

// answered has the Model's answers in the place of those of complete operations, but for their stamps and instances.
func answered(c api.Config, l []api.Line, order []int) []api.Line {
	l = copied(l)
	p := newPlain(c, l, "", nil)
	m, _ := file.NewModel(c)
	for _, i := range order {
		r := m.Do(l[i].Client, l[i].Number, l[i].Op)
		if p.complete(i) {
			was := l[p.end(i)].Result
			r.Stamp, r.Instance = was.Stamp, was.Instance
			l[p.end(i)].Result = r
		}
	}
	return l
}
