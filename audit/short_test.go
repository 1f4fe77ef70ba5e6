package audit_test

import (
	"fmt"
	"testing"

	"cairn/api"
)

// all has each disk of a group hold each of these in turn: whatever there is of so few.
type all struct {
	name    string
	c       api.Config
	letters []records
}

// oneInstance: what three disks may hold of one instance, with the bucket that may have forgotten it.
func oneInstance() all {
	k := at(1, 1)
	letters := []records{{}, {k: api.Instance{}}, {k: []byte{1, 2}}, {k: promised(3, 1)}}
	for _, w := range []api.Command{x(), y()} {
		letters = append(letters, records{k: decided(w)}, records{k: decided(w), dir(1): made(three(), x())})
		for _, b := range []api.Stamp{stamp(2, 1), stamp(2, 2), stamp(3, 1)} {
			letters = append(letters, records{k: accepted(b.N, b.Client, w)})
		}
		letters = append(letters, records{k: outbid(2, 1, w)}, records{k: accepted(2, 1, w), dir(1): made(three(), x())})
	}
	return all{"one instance", three(), letters}
}

// fiveInstances: what five disks may hold of one.
func fiveInstances() all {
	k := at(1, 1)
	return all{"five disks", five(), []records{{}, {k: accepted(1, 1, x())}, {k: accepted(1, 1, y())}, {k: accepted(1, 2, y())}, {k: decided(x())}, {k: decided(y())}}}
}

// twoInstances: a bucket that is as it should be or not, and what is known of its two commands.
func twoInstances() all {
	a, q := abc()[:2], remove(9, 9, "q")
	var letters []records
	for _, b := range []api.Bucket{{}, made(three(), a[0]), made(three(), q), made(three(), a...), made(three(), a[0], q)} {
		for _, first := range []api.Command{{}, a[0], q} {
			for _, second := range []api.Command{{}, a[1], q} {
				if b.Upto >= 1 && first == a[0] || b.Upto >= 2 && second == a[1] {
					continue // it is forgotten: the other one shows as much
				}
				r := known(1, 1, first, second)
				if b.Upto > 0 {
					r[dir(1)] = b
				}
				letters = append(letters, r)
			}
		}
	}
	return all{"two instances", three(), letters}
}

// oneBlock: what three disks may hold of a block.
func oneBlock() all {
	k := blockAt(0)
	letters := []records{{}, {k: zeros(three())}, {k: []byte{1, 2}}}
	for _, s := range []api.Stamp{stamp(1, 1), stamp(1, 2), stamp(2, 1)} {
		letters = append(letters, records{k: written(s.N, s.Client, 1, 2, 3)}, records{k: written(s.N, s.Client, 1, 2, 4)}, records{k: written(s.N, s.Client, 0, 0, 0)})
	}
	return all{"a block", three(), letters}
}

// each looks at all of them, the which-th of so many parts.
func (a all) each(which, parts int, do func(s seen)) {
	group := groupOf(a.c, dir(1))
	made := make([][]api.Image, len(group))
	for i, id := range group {
		for _, l := range a.letters {
			made[i] = append(made[i], image(a.c, id, l))
		}
	}
	rows := 1
	for range group {
		rows *= len(a.letters)
	}
	for n := which; n < rows; n += parts {
		var l []tray
		var row []api.Image
		for i, rest := 0, n; i < len(group); i, rest = i+1, rest/len(a.letters) {
			letter := rest % len(a.letters)
			l = append(l, tray{group[i], a.letters[letter]})
			row = append(row, made[i][letter])
		}
		do(look(a.c, l, row, 1+n%3))
	}
}

// All that few disks may hold.
func TestP1902ShortRows(t *testing.T) {
	t.Parallel()
	for _, a := range []all{oneInstance(), fiveInstances(), twoInstances(), oneBlock()} {
		for part := range 8 {
			t.Run(fmt.Sprint(a.name, part), func(t *testing.T) {
				t.Parallel()
				a.each(part, 8, func(s seen) { s.mustBePlain(t) })
			})
		}
	}
}
