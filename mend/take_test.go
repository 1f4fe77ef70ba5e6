package mend_test

import (
	"math"
	"strings"
	"testing"

	"cairn/api"
	"cairn/mend"
)

func TestP1203Block(t *testing.T) {
	rising := []api.Stamp{stamp(0, 0), stamp(1, 1), stamp(1, 2), stamp(1, 255), stamp(2, 1), stamp(3, 1), stamp(3, 4), stamp(api.MaxNum, 1), stamp(api.MaxNum, 255)}
	for i, mine := range rising {
		for k, theirs := range rising {
			have := answersBlock(theirs, "xyz")
			if k > i {
				mustTake(t, have, holding(mine, "abc"), mend.Change{Key: block, Block: api.Block{Stamp: theirs, Data: []byte("xyz")}})
			} else {
				mustTake(t, have, holding(mine, "abc"))
			}
			if k > 0 {
				mustTake(t, have, mend.Held{}, mend.Change{Key: block, Block: api.Block{Stamp: theirs, Data: []byte("xyz")}})
			}
		}
	}
}

// Stamps that none is are in order too; {0, 0} is above some of them.
func TestP1203BlockWithAnyStamp(t *testing.T) {
	rising := []api.Stamp{stamp(math.MinInt, math.MaxInt), stamp(-1, 0), stamp(-1, 300), stamp(0, -1), stamp(0, 0), stamp(0, 1), stamp(1, math.MinInt), stamp(1, 0), stamp(api.MaxNum+1, 0), stamp(math.MaxInt, math.MaxInt)}
	for i, mine := range rising {
		for k, theirs := range rising {
			if k > i {
				mustTake(t, answersBlock(theirs, "xyz"), holding(mine, "abc"), mend.Change{Key: block, Block: api.Block{Stamp: theirs, Data: []byte("xyz")}})
			} else {
				mustTake(t, answersBlock(theirs, "xyz"), holding(mine, "abc"))
			}
		}
	}
}

// Of a block no bytes and any bytes are taken as they are; More is not listened to; nothing of a bucket is looked at.
func TestP1203BlockLooksAtNothingElse(t *testing.T) {
	h := held(3, "DD")
	h.Block = api.Block{Stamp: stamp(3, 1), Data: []byte("abc")}
	for _, data := range []string{"", "x", strings.Repeat("x", 2*api.MaxBlock)} {
		for _, s := range []api.Stamp{stamp(3, 0), stamp(3, 1), stamp(3, 2), stamp(4, 0)} {
			have := filled(answersBlock(s, data))
			have.Stamp, have.Block = s, []byte(data)
			var want []mend.Change
			if s.N > 3 || s.Client > 1 {
				want = []mend.Change{{Key: block, Block: api.Block{Stamp: s, Data: []byte(data)}}}
			}
			mustTake(t, have, h, want...)
			have.Key = api.Key{Kind: api.KBlock, A: -1, B: -2, C: -3}
			for i := range want {
				want[i].Key = have.Key
			}
			mustTake(t, have, h, want...)
		}
	}
}

func TestP1203Commands(t *testing.T) {
	for _, x := range []struct {
		upto int
		row  string
		n    int
		list string // D: the command that is decided there, a dot: the zero one
		want []int
	}{
		{0, "", 1, "D", []int{1}}, {0, "", 1, "DDD", []int{1, 2, 3}}, {0, "", 1, ".D", []int{2}}, {0, "", 1, "D..D", []int{1, 4}}, {0, "", 5, "D.D", []int{5, 7}},
		{0, "", 1, "", nil}, {0, "", 1, "...", nil},
		{0, "D", 1, "DD", []int{2}}, {0, "a", 1, "DD", []int{1, 2}}, {0, "p", 1, "DD", []int{1, 2}}, {0, ".D", 1, "DDD", []int{1, 3}},
		{0, "DDD", 1, "DDD", nil}, {0, "DDD", 1, "DDDD", []int{4}}, {0, "DDD", 2, "DDD", []int{4}}, {0, "DaD", 1, "DDD", []int{2}}, {0, "DaD", 1, "D.D", nil},
		{0, "aD.D", 1, "DDDDD", []int{1, 3, 5}}, {0, "aD.D", 2, "DD", []int{3}}, {0, "aD.D", 3, "DDD", []int{3, 5}},
		{3, "", 1, "DDDD", []int{4}}, {3, "", 1, "DDD", nil}, {3, "", 3, "DD", []int{4}}, {3, "", 4, "DD", []int{4, 5}}, {3, "D", 2, "DDDD", []int{5}}, {3, ".D", 1, "DDDDDD", []int{4, 6}},
		{3, "", 9, "D", []int{9}},
		{last - 1, "", last, "D", []int{last}}, {last - 1, "", last, "DD", []int{last}}, {last - 1, "", last, ".D", nil}, {last - 1, "D", last, "D", nil},
		{last - 3, "", last - 1, "DDDD", []int{last - 1, last}}, {last - 3, ".D", last - 2, "DDDDD", []int{last - 2, last}},
		{last, "", last, "D", nil}, {last, "", last + 1, "DD", nil}, {0, "", last + 1, "D", nil}, {0, "", last, "DDD", []int{last}},
	} {
		var list []api.Command
		for i, letter := range x.list {
			c := zero
			if letter == 'D' {
				c = command(x.n + i)
			}
			list = append(list, c)
		}
		var want []mend.Change
		for _, n := range x.want {
			want = append(want, brings(n, command(n)))
		}
		h := held(x.upto, x.row)
		mustTake(t, answers(x.n, false, list...), h, want...)
		next := none
		if len(list) > 0 {
			next = asks(x.n + len(list))
		}
		mustTakeAndAsk(t, answers(x.n, true, list...), h, want, next)
	}
}

// What is decided here stays, whatever the answer says of it; what is accepted here gives way.
func TestP1203WhatIsDecidedStays(t *testing.T) {
	have := answers(1, false, other(1), other(2), other(3), other(4))
	mustTake(t, have, held(0, "DDDD"))
	mustTake(t, have, held(0, "DaDp"), brings(2, other(2)), brings(4, other(4)))
	mustTake(t, have, held(2, "D"), brings(4, other(4)))
}

// How many Commands there are is not looked at: more than one message may hold are taken all.
func TestP1203ManyCommands(t *testing.T) {
	for _, many := range []int{63, 64, 65, 127, 128, 129, 1000} {
		for _, n := range []int{1, 2, 7, last - 64, last - 2000} {
			end := min(n+many-1, last)
			list := commands(n, n+many-1)
			mustTake(t, answers(n, false, list...), mend.Held{}, bringsAll(n, end)...)
			mustTakeAndAsk(t, answers(n, true, list...), mend.Held{}, bringsAll(n, end), asks(n+many))
			mustTakeAndAsk(t, answers(n, true, list...), held(n+9, "D"), bringsAll(min(n+11, last+1), end), asks(n+many))
			mustTakeAndAsk(t, answers(n, true, make([]api.Command, many)...), mend.Held{}, nil, asks(n+many))
		}
	}
}

func TestP1203Bucket(t *testing.T) {
	for _, x := range []struct {
		upto  int
		row   string
		told  int
		newer bool
	}{
		{0, "", 1, true}, {0, "", 9, true}, {0, "", last, true}, {0, "a", 1, true}, {0, "p", 1, true}, {0, ".D", 1, true}, {0, ".D", 2, true},
		{0, "D", 1, false}, {0, "D", 2, true}, {0, "DD", 1, false}, {0, "DD", 2, false}, {0, "DD", 3, true}, {0, "DDaD", 3, true}, {0, "DD.D", 2, false}, {0, "DD.D", 4, true},
		{3, "", 1, false}, {3, "", 2, false}, {3, "", 3, false}, {3, "", 4, true}, {3, "D", 3, false}, {3, "D", 4, false}, {3, "D", 5, true}, {3, "aD", 4, true}, {3, "aD", 3, false},
		{last, "", last, false}, {last, "", last - 1, false}, {last - 1, "", last, true}, {last - 1, "D", last, false}, {last - 1, "a", last, true}, {last - 2, ".D", last - 1, true}, {last - 2, ".D", last, true},
	} {
		h := held(x.upto, x.row)
		var want []mend.Change
		if x.newer {
			want = []mend.Change{{Key: dir, Bucket: trimmed(x.told)}}
		}
		mustTake(t, answersBucket(trimmed(x.told), false), h, want...)
		mustTakeAndAsk(t, answersBucket(trimmed(x.told), true), h, want, asks(x.told+1))
	}
}

// A bucket is taken as it is told, also one of which nothing but its Upto is there, and one that may not be.
func TestP1203AnyBucket(t *testing.T) {
	for _, b := range []api.Bucket{{Upto: 3}, {Upto: 3, Entries: []api.Entry{{Name: "", Size: -1}, {Name: ""}}}, {Upto: 3, Lasts: []api.Last{{Client: -1, Instance: 9}}}} {
		mustTakeAndAsk(t, answersBucket(b, true), held(2, ""), []mend.Change{{Key: dir, Bucket: b}}, asks(4))
		mustTakeAndAsk(t, answersBucket(b, true), held(2, "D"), nil, asks(4))
	}
}

// With a Bucket neither Stamp nor Commands are looked at; without one the rest of the Bucket is not.
func TestP1203BucketOrCommands(t *testing.T) {
	for _, n := range []int{math.MinInt, -1, 0, 1, 7, last + 1, last + 2, math.MaxInt} {
		have := filled(answersBucket(trimmed(3), true))
		have.Stamp, have.Bucket = stamp(n, 0), trimmed(3)
		mustTakeAndAsk(t, have, held(2, ""), []mend.Change{{Key: dir, Bucket: trimmed(3)}}, asks(4))
		mustTakeAndAsk(t, have, held(2, "D"), nil, asks(4))
		have.More = false
		mustTake(t, have, held(2, ""), mend.Change{Key: dir, Bucket: trimmed(3)})
	}
	have := filled(answers(3, true))
	have.Stamp, have.Commands, have.Bucket = stamp(3, 88), commands(3, 4), api.Bucket{Entries: trimmed(1).Entries, Lasts: trimmed(1).Lasts}
	mustTakeAndAsk(t, have, held(2, ""), bringsAll(3, 4), asks(5))
	have.Commands = nil
	mustTake(t, have, held(2, ""))
}

// Behind a Change of a bucket it answers for what it has trimmed there, and knows behind that what it knew.
func TestP1204BehindABucket(t *testing.T) {
	h := held(0, "D.aDDa.D")
	list, _, _ := mend.Take(answersBucket(trimmed(3), false), h)
	h = lay(h, list)
	if !sameHeld(h, held(3, "DDa.D")) {
		t.Fatalf("it holds %+v", h)
	}
	mustAsk(t, dir, h, asks(6))
	for n := 1; n <= 3; n++ {
		mustHave(t, asks(n), h, answersBucket(trimmed(3), true))
	}
	mustHave(t, asks(4), h, answers(4, false, command(4), command(5), zero, zero, command(8)))
	mustTake(t, answersBucket(trimmed(3), false), h)
	mustTake(t, answers(1, false, commands(1, 8)...), h, brings(6, command(6)), brings(7, command(7)))
}

// What is neither a bucket nor tells of instances that may be is passed over, with all that it brings.
func TestP1203NoSuchInstance(t *testing.T) {
	for _, h := range []mend.Held{{}, held(0, "DD"), held(4, "aD"), held(last, "")} {
		for _, more := range []bool{false, true} {
			for _, n := range []int{math.MinInt, -64, -1, 0, last + 2, last + 65, math.MaxInt - 1, math.MaxInt} {
				mustTake(t, answers(n, more, commands(1, 3)...), h)
				mustTake(t, answers(n, more), h)
			}
			for _, upto := range []int{math.MinInt, -1, last + 1, last + 2, math.MaxInt} {
				b := trimmed(9)
				b.Upto = upto
				mustTake(t, answersBucket(b, more), h)
				have := answers(3, more, commands(3, 5)...)
				have.Bucket = b
				mustTake(t, have, h)
			}
		}
	}
}

// More of nothing would never end.
func TestP1203MoreOfNothing(t *testing.T) {
	for _, h := range []mend.Held{{}, held(0, "DD"), held(4, "aD"), held(last, "")} {
		for _, n := range []int{1, 2, 5, 6, last, last + 1} {
			mustTake(t, answers(n, true), h)
			mustTake(t, answers(n, false), h)
		}
	}
}

// At the end of all instances the next one is told as it is counted.
func TestP1203NextAtTheEnd(t *testing.T) {
	mustTakeAndAsk(t, answers(last, true, command(last)), held(last-1, ""), bringsAll(last, last), asks(last+1))
	mustTakeAndAsk(t, answers(last, true, zero), held(last-1, ""), nil, asks(last+1))
	mustTakeAndAsk(t, answers(last, true, command(last), command(1)), held(last-1, ""), bringsAll(last, last), asks(last+2))
	mustTakeAndAsk(t, answers(last+1, true, command(1), command(2)), held(last-1, ""), nil, asks(last+3))
	mustTakeAndAsk(t, answersBucket(trimmed(last), true), held(last-1, ""), []mend.Change{{Key: dir, Bucket: trimmed(last)}}, asks(last+1))
}

// Just the zero Command is none: one that tells anything is brought, whatever it is.
func TestP1203AnyCommand(t *testing.T) {
	for _, c := range []api.Command{{Kind: -1}, {Kind: 99}, {Client: 1}, {Op: 1}, {Name: "a"}, {File: api.File{Op: 1}}, {New: api.File{Client: 1}}, {Size: -1}} {
		mustTake(t, answers(1, false, c, zero, c), held(0, "a"), brings(1, c), brings(3, c))
	}
}

// An instance's key names the bucket and the instance; the rest of a bucket's key is none of it.
func TestP1203KeysOfInstances(t *testing.T) {
	for _, k := range []api.Key{{Kind: api.KBucket}, {Kind: api.KBucket, A: 255}, {Kind: api.KBucket, A: -1, B: 77, C: 88}, {Kind: api.KBucket, A: math.MaxInt}} {
		have := answers(4, true, command(4), zero, command(6))
		have.Key = k
		next := asks(7)
		next.Key = k
		key := func(n int) api.Key { return api.Key{Kind: api.KInstance, A: k.A, B: n} }
		mustTakeAndAsk(t, have, held(1, "D"), []mend.Change{{Key: key(4), Instance: decided(4)}, {Key: key(6), Instance: decided(6)}}, next)
		have = answersBucket(trimmed(4), true)
		have.Key, next.Stamp.N = k, 5
		mustTakeAndAsk(t, have, held(1, "D"), []mend.Change{{Key: k, Bucket: trimmed(4)}}, next)
	}
}

// The next question goes back to whom the answer came from.
func TestP1203AsksBack(t *testing.T) {
	odd := []api.Addr{server(5), server(0), server(-1), {Client: true, Id: 7}, {Client: true}, server(math.MaxInt)}
	for _, from := range odd {
		for _, to := range odd {
			have := answers(4, true, command(4))
			have.From, have.To = from, to
			next := asks(5)
			next.From, next.To = to, from
			mustTakeAndAsk(t, have, held(1, ""), bringsAll(4, 4), next)
		}
	}
}

func TestP1203OtherMessages(t *testing.T) {
	for _, h := range []mend.Held{{}, held(1, "DD"), holding(stamp(1, 1), "abc")} {
		for kind := -1; kind <= 30; kind++ {
			for _, k := range []api.Key{block, dir, at(2), {}, {Kind: -1}, {Kind: 4}} {
				if kind == api.MHave && (k == block || k == dir) {
					continue
				}
				m := api.Msg{Kind: kind, From: server(2), To: server(5), Key: k, Stamp: stamp(9, 9), Commands: commands(9, 12), More: true}
				mustTake(t, m, h)
				mustTake(t, filled(m), h)
			}
		}
		mustTake(t, none, h)
	}
}
