package mend_test

import (
	"runtime"
	"slices"
	"strings"
	"testing"
	"weak"

	"cairn/api"
	"cairn/mend"
)

// What stands in spare room, and what lists are filled with to see who shares them.
var (
	junkEntry = api.Entry{Name: "junk", File: api.File{Client: 77, Op: 77}, Size: 77}
	junkLast  = api.Last{Client: 77, Op: 77, Instance: 77, Err: 77}
	junkPlace = mend.Place{N: 77, Instance: api.Instance{Command: other(77), Decided: true}}
)

// roomy has the same items, with others in its spare room.
func roomy[T any](list []T, spare T) []T {
	room := append(slices.Clone(list), spare, spare, spare)
	return room[:len(list)]
}

// spoil fills a list, its spare room too.
func spoil[T any](list []T, with T) {
	list = list[:cap(list)]
	for i := range list {
		list[i] = with
	}
}

// all is a list with its spare room, in memory of its own.
func all[T any](list []T) []T { return append([]T(nil), list[:cap(list)]...) }

func roomyBucket(b api.Bucket) api.Bucket {
	return api.Bucket{Upto: b.Upto, Entries: roomy(b.Entries, junkEntry), Lasts: roomy(b.Lasts, junkLast)}
}

func spoilBucket(b api.Bucket) {
	spoil(b.Entries, junkEntry)
	spoil(b.Lasts, junkLast)
}

func wholeBucket(b api.Bucket) api.Bucket {
	return api.Bucket{Upto: b.Upto, Entries: all(b.Entries), Lasts: all(b.Lasts)}
}

func roomyHeld(h mend.Held) mend.Held {
	return mend.Held{Block: api.Block{Stamp: h.Block.Stamp, Data: roomy(h.Block.Data, '!')}, Bucket: roomyBucket(h.Bucket), Row: roomy(h.Row, junkPlace)}
}

func spoilHeld(h mend.Held) {
	spoil(h.Block.Data, '?')
	spoilBucket(h.Bucket)
	spoil(h.Row, junkPlace)
}

func wholeHeld(h mend.Held) mend.Held {
	return mend.Held{Block: api.Block{Stamp: h.Block.Stamp, Data: all(h.Block.Data)}, Bucket: wholeBucket(h.Bucket), Row: all(h.Row)}
}

func roomyMsg(m api.Msg) api.Msg {
	m.Block, m.Bucket, m.Commands = roomy(m.Block, '!'), roomyBucket(m.Bucket), roomy(m.Commands, other(77))
	return m
}

func spoilMsg(m api.Msg) {
	spoil(m.Block, '?')
	spoilBucket(m.Bucket)
	spoil(m.Commands, other(78))
}

func wholeMsg(m api.Msg) api.Msg {
	m.Block, m.Bucket, m.Commands = all(m.Block), wholeBucket(m.Bucket), all(m.Commands)
	return m
}

func spoilChanges(list []mend.Change) {
	for _, c := range list {
		spoil(c.Block.Data, '?')
		spoilBucket(c.Bucket)
	}
	spoil(list, mend.Change{Key: at(77), Instance: junkPlace.Instance})
}

// keepers hold a block, a trimmed bucket, a row, each and all of these; and nothing.
func keepers() []mend.Held {
	list := []mend.Held{{}, holding(stamp(3, 1), "abc"), held(2, ""), held(0, "DD.aD"), held(2, "aDDp"), held(1, strings.Repeat("D", 70)), held(0, "DDDDDDDD"), held(last-1, "D")}
	for _, h := range list {
		h.Block = api.Block{Stamp: stamp(2, 7), Data: []byte("xyz")}
		list = append(list, h)
	}
	return list
}

// questions and replies are of all that the calls know, and of some that they pass over.
func questions() []api.Msg {
	list := []api.Msg{askBlock(), filled(askBlock()), none, filled(none)}
	for _, n := range []int{0, 1, 2, 3, 4, 7, 70, last, last + 1, last + 2} {
		list = append(list, asks(n), filled(asks(n)))
	}
	return list
}

func replies() []api.Msg {
	list := []api.Msg{answersBlock(stamp(3, 4), "new"), answersBlock(stamp(1, 1), "old"), answersBlock(stamp(9, 9), ""), none, filled(none)}
	for _, more := range []bool{false, true} {
		for _, n := range []int{1, 2, 3, 9, last} {
			list = append(list, answersBucket(trimmed(n), more), answers(n, more, commands(n, n+3)...), answers(n, more, zero, command(n+1)), answers(n, more))
		}
	}
	for _, m := range list[:len(list):len(list)] {
		f := filled(m)
		f.Stamp, f.Bucket = m.Stamp, m.Bucket
		list = append(list, f)
	}
	return list
}

func TestP1204NothingHandedInIsChanged(t *testing.T) {
	for _, one := range keepers() {
		h := roomyHeld(one)
		was := wholeHeld(h)
		for _, k := range []api.Key{dir, block, at(1)} {
			spoilMsg(mend.Ask(5, 2, k, h))
		}
		for _, q := range questions() {
			m := roomyMsg(q)
			wasMsg := wholeMsg(m)
			spoilMsg(mend.Have(m, h))
			if !sameMsg(wholeMsg(m), wasMsg) || !sameHeld(wholeHeld(h), was) {
				t.Fatalf("Have(%+v, %+v): what was handed in is changed", q, one)
			}
		}
		for _, q := range replies() {
			m := roomyMsg(q)
			wasMsg := wholeMsg(m)
			list, next, _ := mend.Take(m, h)
			spoilChanges(list)
			spoilMsg(next)
			if !sameMsg(wholeMsg(m), wasMsg) || !sameHeld(wholeHeld(h), was) {
				t.Fatalf("Take(%+v, %+v): what was handed in is changed", q, one)
			}
		}
	}
}

// What becomes of what was handed in is not seen in what was told.
func TestP2NothingHandedInIsKept(t *testing.T) {
	for _, one := range keepers() {
		for _, q := range questions() {
			h, m := roomyHeld(one), roomyMsg(q)
			got := mend.Have(m, h)
			whole := wholeMsg(got)
			spoilHeld(h)
			spoilMsg(m)
			if !sameMsg(got, mend.Have(q, one)) || !sameMsg(wholeMsg(got), whole) {
				t.Fatalf("Have(%+v, %+v): %+v, when what was handed in is written over", q, one, got)
			}
		}
		for _, q := range replies() {
			h, m := roomyHeld(one), roomyMsg(q)
			list, next, more := mend.Take(m, h)
			spoilHeld(h)
			spoilMsg(m)
			want, wantNext, wantMore := mend.Take(q, one)
			if !sameChanges(list, want) || !sameMsg(next, wantNext) || more != wantMore {
				t.Fatalf("Take(%+v, %+v): %+v, %+v, when what was handed in is written over", q, one, list, next)
			}
		}
	}
}

// Two answers of one question share nothing, their spare room neither.
func TestP2AnswersShareNothing(t *testing.T) {
	for _, h := range keepers() {
		for _, q := range questions() {
			a, b := mend.Have(q, h), mend.Have(q, h)
			want := wholeMsg(b)
			spoilMsg(a)
			if !sameMsg(wholeMsg(b), want) || !sameMsg(mend.Have(q, h), b) {
				t.Fatalf("Have(%+v, %+v): two answers share memory", q, h)
			}
		}
		for _, q := range replies() {
			a, _, _ := mend.Take(q, h)
			b, _, _ := mend.Take(q, h)
			spoilChanges(a)
			c, _, _ := mend.Take(q, h)
			if !sameChanges(b, c) {
				t.Fatalf("Take(%+v, %+v): two answers share memory", q, h)
			}
		}
	}
}

func TestP2NoListAndEmptyOnes(t *testing.T) {
	empty := mend.Held{Block: api.Block{Data: []byte{}}, Bucket: api.Bucket{Entries: []api.Entry{}, Lasts: []api.Last{}}, Row: []mend.Place{}}
	for _, upto := range []int{0, 2} {
		a, b := mend.Held{}, empty
		a.Bucket.Upto, b.Bucket.Upto = upto, upto
		a.Block.Stamp, b.Block.Stamp = stamp(upto, 1), stamp(upto, 1)
		for _, k := range []api.Key{dir, block} {
			mustAsk(t, k, b, mend.Ask(5, 2, k, a))
		}
		for _, q := range questions() {
			mustHave(t, q, b, mend.Have(q, a))
		}
		for _, q := range replies() {
			list, next, _ := mend.Take(q, a)
			mustTakeAndAsk(t, q, b, list, next)
			if len(q.Block)+len(q.Commands)+len(q.Bucket.Entries) > 0 {
				continue
			}
			q.Block, q.Commands, q.Bucket.Entries, q.Bucket.Lasts = []byte{}, []api.Command{}, []api.Entry{}, []api.Last{}
			mustTakeAndAsk(t, q, a, list, next)
		}
	}
}

type heavy struct {
	row      [1 << 8]mend.Place
	entries  [1 << 8]api.Entry
	lasts    [1 << 8]api.Last
	block    [1 << 12]byte
	commands [1 << 8]api.Command
}

// heavyAnswers tells what is answered to one whose lists, so long, nobody else has.
func heavyAnswers(long int) ([]any, weak.Pointer[heavy]) {
	h := new(heavy)
	for i := range h.row {
		h.row[i] = mend.Place{N: 3 + i, Instance: decided(3 + i)}
		h.commands[i] = command(1 + i)
	}
	holds := mend.Held{
		Block:  api.Block{Stamp: stamp(3, 1), Data: h.block[:long]},
		Bucket: api.Bucket{Upto: 2, Entries: h.entries[:long], Lasts: h.lasts[:long]},
		Row:    h.row[:long],
	}
	var told []any
	for _, n := range []int{1, 2, 3} {
		told = append(told, mend.Have(asks(n), holds))
	}
	told = append(told, mend.Ask(5, 2, dir, holds), mend.Have(askBlock(), holds))
	for _, have := range []api.Msg{answersBlock(stamp(4, 1), ""), answersBucket(trimmed(4), true), answers(1, true, h.commands[:long]...)} {
		have.Block, have.Bucket.Entries, have.Bucket.Lasts = h.block[:long], h.entries[:long], h.lasts[:long]
		for _, by := range []mend.Held{{}, holds} {
			list, next, _ := mend.Take(have, by)
			told = append(told, list, next)
		}
	}
	return told, weak.Make(h)
}

// Of what is handed in nothing is held by an answer, not even where it holds an empty list.
func TestP2NothingIsHeld(t *testing.T) {
	for _, long := range []int{0, 1, 9} {
		answers, of := heavyAnswers(long)
		runtime.GC()
		runtime.GC()
		if of.Value() != nil {
			t.Errorf("lists of %d: what was handed in is held", long)
		}
		runtime.KeepAlive(answers)
	}
}
