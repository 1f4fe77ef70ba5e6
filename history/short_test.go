package history_test

import (
	"iter"
	"slices"
	"testing"

	"cairn/api"
)

// letter makes the next line of a short row; false: it has no meaning there.
type letter func(l []api.Line) (api.Line, bool)

// lastOf is the last invocation of a client.
func lastOf(l []api.Line, client int) api.Line {
	for _, x := range slices.Backward(l) {
		if x.Kind == api.HInvoke && x.Client == client {
			return x
		}
	}
	return api.Line{}
}

func invokes(client int, o api.Op) letter {
	return func(l []api.Line) (api.Line, bool) { return invoke(client, lastOf(l, client).Number+1, o), true }
}

// returnsTo is a return of the client's last operation, if it is of that kind (0: of any).
func returnsTo(client, kind int, r api.Result) letter {
	return func(l []api.Line) (api.Line, bool) {
		last := lastOf(l, client)
		return returns(client, last.Number, r), last.Number > 0 && (kind == 0 || last.Op.Kind == kind)
	}
}

func plainly(x api.Line) letter { return func([]api.Line) (api.Line, bool) { return x, true } }

// blockLetters are of one block: client i writes i.
func blockLetters() []letter {
	all := []letter{plainly(end(1))}
	for i := 1; i <= 2; i++ {
		all = append(all, invokes(i, write(byte(i))), invokes(i, read()), returnsTo(i, 0, worn()))
		for _, s := range []api.Stamp{stamp(1, 1), stamp(1, 2), stamp(2, 1)} {
			all = append(all, returnsTo(i, api.OWrite, wrote(s.N, s.Client)), returnsTo(i, api.ORead, got(byte(s.Client), s.N, s.Client)))
		}
		all = append(all, returnsTo(i, api.ORead, got(0, 0, 0)), returnsTo(i, api.OWrite, wrote(0, 0)))
	}
	return all
}

// wornLetters are of one block that client 1 writes without being told, while client 2 reads.
func wornLetters() []letter {
	return []letter{
		invokes(1, write(1)), returnsTo(1, 0, worn()), returnsTo(1, 0, wrote(1, 1)),
		invokes(2, read()), returnsTo(2, 0, got(1, 1, 1)), returnsTo(2, 0, got(1, 2, 1)),
	}
}

// bucketLetters are of one bucket; what is learned is the clients' first commands.
func bucketLetters() []letter {
	c := small()
	name := inBucket(c, 0, 0)
	all := []letter{
		plainly(learn(0, 1, commandOf(1, 1, create(name)))), plainly(learn(0, 2, commandOf(1, 1, create(name)))),
		plainly(learn(0, 2, commandOf(2, 1, remove(name)))), plainly(learn(1, 1, commandOf(1, 1, create(name)))),
	}
	for i := 1; i <= 2; i++ {
		all = append(all, invokes(i, create(name)), returnsTo(i, 0, worn()))
		for n := range 3 {
			all = append(all, returnsTo(i, 0, made(name, i, 1, n)))
		}
	}
	return append(all, invokes(2, lookup(name)), invokes(2, list(0)))
}

// aloneLetters are those of P1806, in whatever order.
func aloneLetters() []letter {
	all := []letter{plainly(api.Line{}), plainly(learn(0, 1, commandOf(1, 1, create("a"))))}
	for i := 1; i <= 2; i++ {
		all = append(all, plainly(begin(i, readAt("a"))), plainly(end(i)), plainly(returns(i, 2, worn())))
		for n := 1; n <= 2; n++ {
			all = append(all, plainly(invoke(i, n, read())), plainly(returns(i, n, got(0, 0, 0))))
		}
	}
	return all
}

// alphabet is what short rows are made of, and how long they are.
type alphabet struct {
	name    string
	letters []letter
	most    int
	any     bool // whatever comes; else nothing comes behind what is no history
}

func alphabets() []alphabet {
	return []alphabet{
		{"open writes", wornLetters(), 9, false}, {"any lines", aloneLetters(), 4, true}, {"a block", blockLetters(), 6, false}, {"a bucket", bucketLetters(), 5, false},
	}
}

// rows are all that there are.
func (a alphabet) rows() iter.Seq[seen] {
	return func(yield func(seen) bool) { a.grow(nil, yield) }
}

func (a alphabet) grow(l []api.Line, yield func(seen) bool) bool {
	s := look(small(), l, calls(l))
	if !yield(s) {
		return false
	}
	if len(l) == a.most || s.right != api.OK && !a.any {
		return true
	}
	for _, next := range a.letters {
		if x, fits := next(l); fits && !a.grow(append(slices.Clip(l), x), yield) {
			return false
		}
	}
	return true
}

// All short rows.
func TestP1804ShortRows(t *testing.T) {
	t.Parallel()
	for _, a := range alphabets() {
		t.Run(a.name, func(t *testing.T) {
			t.Parallel()
			orders := 0
			for s := range a.rows() {
				s.mustBePlain(t)
				if s.ok {
					orders++
				}
			}
			if orders < 1000 {
				t.Errorf("too few orders to tell: %d", orders)
			}
		})
	}
}
