package mend

import (
	"iter"

	"cairn/api"
)

// decided goes through a row, over the instances that are decided there: the others count, for a mend, as if nothing were held of them.
func decided(row []Place) iter.Seq2[int, api.Command] {
	return func(yield func(int, api.Command) bool) {
		for i := range row {
			p := &row[i]
			if p.Instance.Decided && !yield(p.N, p.Instance.Command) {
				return
			}
		}
	}
}

// edge tells up to which instance nothing is lacking.
func edge(h Held) int {
	at := h.Bucket.Upto
	for n := range decided(h.Row) {
		if n != at+1 {
			break
		}
		at = n
	}
	return at
}

// top tells the last instance that is trimmed or known as decided.
func top(h Held) int {
	at := h.Bucket.Upto
	for n := range decided(h.Row) {
		at = n
	}
	return at
}

// decisions tells what was decided in count instances from first on: the zero Command of those that are not known as decided.
func decisions(row []Place, first, count int) []api.Command {
	list := make([]api.Command, count)
	for n, c := range decided(row) {
		if n >= first && n-first < count {
			list[n-first] = c
		}
	}
	return list
}
