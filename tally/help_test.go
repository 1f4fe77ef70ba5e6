package tally_test

import (
	"iter"
	"slices"
	"testing"

	"cairn/api"
	"cairn/tally"
)

func stamp(n, c int) api.Stamp { return api.Stamp{N: n, Client: c} }

// said is a server with its answer.
type said[T any] struct {
	server int
	value  T
}

func gather[T any](seq iter.Seq2[int, T]) []said[T] {
	var list []said[T]
	for server, v := range seq {
		list = append(list, said[T]{server, v})
	}
	return list
}

func mustTake[T any](t *testing.T, x *tally.Tally[T], server int, v T, want bool) {
	t.Helper()
	if is := x.Take(server, v); is != want {
		t.Fatalf("Take(%d, %#v): %v, not %v", server, v, is, want)
	}
}

func mustEnough[T any](t *testing.T, x *tally.Tally[T], want bool) {
	t.Helper()
	if is := x.Enough(); is != want {
		t.Fatalf("Enough: %v, not %v", is, want)
	}
}

func mustGet[T comparable](t *testing.T, x *tally.Tally[T], want ...said[T]) {
	t.Helper()
	if list := gather(x.Got()); !slices.Equal(list, want) {
		t.Fatalf("Got: %#v, not %#v", list, want)
	}
}

func mustMiss[T any](t *testing.T, x *tally.Tally[T], want ...int) {
	t.Helper()
	if list := x.Missing(); !slices.Equal(list, want) {
		t.Fatalf("Missing: %v, not %v", list, want)
	}
}

// plain is a tally by the chapter's words alone: a list of what counts, gone through for each question.
type plain struct {
	group []int
	need  int
	count []said[int]
}

func plainOf(group []int, need int) *plain {
	p := &plain{need: need}
	for i, server := range group {
		if !slices.Contains(group[:i], server) {
			p.group = append(p.group, server)
		}
	}
	return p
}

func (p *plain) enough() bool { return len(p.count) >= p.need }

func (p *plain) answered(server int) bool {
	return slices.ContainsFunc(p.count, func(a said[int]) bool { return a.server == server })
}

func (p *plain) take(server, v int) bool {
	if !slices.Contains(p.group, server) || p.answered(server) || p.enough() {
		return false
	}
	p.count = append(p.count, said[int]{server, v})
	return p.enough()
}

func (p *plain) got() []said[int] {
	var list []said[int]
	for _, server := range p.group {
		for _, a := range p.count {
			if a.server == server {
				list = append(list, a)
			}
		}
	}
	return list
}

func (p *plain) missing() []int {
	return slices.DeleteFunc(slices.Clone(p.group), p.answered)
}

func mustAgree(t *testing.T, x *tally.Tally[int], p *plain) {
	t.Helper()
	mustEnough(t, x, p.enough())
	mustGet(t, x, p.got()...)
	mustMiss(t, x, p.missing()...)
}

// rows are all rows of at most so many of these numbers.
func rows(most int, of ...int) [][]int {
	list := [][]int{nil}
	for from := 0; most > 0; most-- {
		end := len(list)
		for _, row := range list[from:end] {
			for _, n := range of {
				list = append(list, append(slices.Clone(row), n))
			}
		}
		from = end
	}
	return list
}
