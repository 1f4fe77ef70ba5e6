package mend_test

import (
	"fmt"
	"math/rand"
	"strings"
	"testing"

	"cairn/api"
	"cairn/mend"
)

// knows tells whether a server has trimmed an instance, or knows it as decided.
func knows(h mend.Held, n int) bool { return n <= h.Bucket.Upto || found(h, n).Decided }

// below says the order of stamps without the package's own comparison.
func below(a, b api.Stamp) bool { return a.N < b.N || a.N == b.N && a.Client < b.Client }

// lowered tells what is lower behind Changes than it was, or is otherwise decided; nothing, if P1205 holds.
func lowered(was, is mend.Held) string {
	switch {
	case below(is.Block.Stamp, was.Block.Stamp):
		return fmt.Sprint("a block's stamp was ", was.Block.Stamp, " and is ", is.Block.Stamp)
	case edgeOf(is) < edgeOf(was):
		return fmt.Sprint("the edge was ", edgeOf(was), " and is ", edgeOf(is))
	}
	for _, p := range was.Row {
		if p.Instance.Decided && p.N > is.Bucket.Upto && found(is, p.N) != p.Instance {
			return fmt.Sprint("the instance ", p.N, " was decided and is ", found(is, p.N))
		}
	}
	return ""
}

// mended plays a mend between a, who asks, and b: what a holds then, how many Takes there were, and what is wrong by P1205 and P1206.
func mended(r mender, k api.Key, a, b mend.Held) (mend.Held, int, string) {
	is, takes := a, 0
	most := 2 + max(0, topOf(b)-edgeOf(a))/64
	ask, more := r.Ask(5, 2, k, a), true
	for more {
		if takes++; takes > most {
			return is, takes, fmt.Sprint("more than ", most, " Takes")
		}
		var list []mend.Change
		was := is
		list, ask, more = r.Take(r.Have(ask, b), is)
		is = lay(is, list)
		if fault := lowered(was, is); fault != "" {
			return is, takes, fault
		}
	}
	if k.Kind == api.KBucket {
		return is, takes, lacking(a, b, is)
	}
	if below(is.Block.Stamp, b.Block.Stamp) {
		return is, takes, "the block is elder than the other's"
	}
	return is, takes, ""
}

// lacking tells of an instance that either knew and that is not known behind a mend; or that is known, and was by neither, or otherwise.
func lacking(a, b, is mend.Held) string {
	for n := max(1, min(a.Bucket.Upto, b.Bucket.Upto)); n <= max(topOf(a), topOf(b), topOf(is)); n++ {
		if knows(is, n) != (knows(a, n) || knows(b, n)) {
			return fmt.Sprint("the instance ", n, " is known: ", knows(is, n))
		}
		if i := found(is, n); i.Decided && i != decided(n) {
			return fmt.Sprint("the instance ", n, " is ", i)
		}
	}
	if is.Bucket.Upto < a.Bucket.Upto || !sameBucket(is.Bucket, trimmed(is.Bucket.Upto)) {
		return fmt.Sprint("the bucket is ", is.Bucket)
	}
	return ""
}

func mustMend(t *testing.T, r mender, k api.Key, a, b mend.Held) mend.Held {
	is, _, fault := mended(r, k, a, b)
	if fault != "" {
		t.Helper()
		t.Fatalf("a mend of %+v from %+v: %s", a, b, fault)
	}
	return is
}

// Every pair of short rows, at the beginning and at the end of all instances.
func TestP1206EveryPair(t *testing.T) {
	t.Parallel()
	for _, all := range [][]mend.Held{helds(0, 3, 4), helds(last-4, last, 4)} {
		for _, a := range all {
			for _, b := range all {
				mustMend(t, own{}, dir, a, b)
			}
		}
	}
}

// aPair is of two that have trimmed and know of one row what chance has let them.
func aPair(r *rand.Rand) (mend.Held, mend.Held) {
	upto := anUpto(r, 150)
	near := func() int { return min(last, max(0, upto+r.Intn(200)-100)) }
	if upto == 0 || r.Intn(3) == 0 {
		near = func() int { return upto }
	}
	dense := []float64{0.02, 0.5, 0.9, 1}
	return aRow(r, upto, 300, dense[r.Intn(4)]), aRow(r, near(), 300, dense[r.Intn(4)])
}

func TestP1206LongRows(t *testing.T) {
	t.Parallel()
	r := rand.New(rand.NewSource(6))
	for range 600 {
		a, b := aPair(r)
		mustMend(t, own{}, dir, a, b)
		mustMend(t, own{}, dir, b, a)
	}
}

// P1206's bound is reached: the trimmed bucket, and then so many messages of commands.
func TestP1206HowManyTakes(t *testing.T) {
	full := func(n int) string { return strings.Repeat("D", n) }
	for _, x := range []struct {
		a, b  mend.Held
		takes int
	}{
		{mend.Held{}, mend.Held{}, 1}, {held(0, full(9)), mend.Held{}, 1}, {held(9, ""), held(9, ""), 1}, {held(9, ""), held(3, full(6)), 1},
		{mend.Held{}, held(0, full(1)), 1}, {mend.Held{}, held(0, full(63)), 1}, {mend.Held{}, held(0, full(64)), 1}, {mend.Held{}, held(0, full(65)), 2},
		{mend.Held{}, held(0, full(128)), 2}, {mend.Held{}, held(0, full(129)), 3}, {held(0, full(70)), held(0, full(134)), 1}, {held(0, full(70)), held(0, full(135)), 2},
		{mend.Held{}, held(1, ""), 1}, {mend.Held{}, held(70, ""), 1}, {mend.Held{}, held(1, full(1)), 2}, {mend.Held{}, held(1, full(62)), 2}, {mend.Held{}, held(1, full(64)), 2},
		{mend.Held{}, held(1, full(65)), 3}, {mend.Held{}, held(1, full(128)), 3}, {mend.Held{}, held(1, full(129)), 4},
		{mend.Held{}, held(0, strings.Repeat(".", 128)+"D"), 3}, {held(0, "."+full(99)), held(0, full(100)), 2},
		{held(last-1, ""), held(last-1, "D"), 1}, {held(last-2, ""), held(last-1, "D"), 2}, {held(last-70, ""), held(last-70, full(70)), 2}, {held(last, ""), held(last, ""), 1},
	} {
		mustMend(t, own{}, dir, x.a, x.b)
		if _, takes, _ := mended(own{}, dir, x.a, x.b); takes != x.takes {
			t.Errorf("a mend of %+v from %+v: %d Takes, not %d", x.a, x.b, takes, x.takes)
		}
	}
}

func TestP1206Blocks(t *testing.T) {
	var all []mend.Held
	for _, s := range []api.Stamp{{}, stamp(1, 1), stamp(1, 2), stamp(2, 1), stamp(api.MaxNum, 255)} {
		all = append(all, holding(s, fmt.Sprint(s)))
	}
	for i, a := range all {
		for k, b := range all {
			is := mustMend(t, own{}, block, a, b)
			if !sameBlock(is.Block, all[max(i, k)].Block) {
				t.Fatalf("a mend of %+v from %+v: %+v", a.Block, b.Block, is.Block)
			}
		}
	}
}

// Behind a mend of every ordered pair of several, in whatever order, each knows what any of them knew, and holds the newest block.
func TestP1206EveryOrderedPair(t *testing.T) {
	t.Parallel()
	r := rand.New(rand.NewSource(7))
	for range 120 {
		all := make([]mend.Held, 2+r.Intn(5))
		upto := anUpto(r, 100)
		for i := range all {
			all[i] = aRow(r, min(last, upto+r.Intn(3)*r.Intn(60)), 150, []float64{0.1, 0.5, 1}[r.Intn(3)])
			all[i].Block = api.Block{Stamp: stamp(r.Intn(3), r.Intn(3)), Data: []byte("abc")}
		}
		first := append([]mend.Held(nil), all...)
		for _, pair := range r.Perm(len(all) * len(all)) {
			a, b := pair/len(all), pair%len(all)
			if a == b {
				continue
			}
			all[a] = mustMend(t, own{}, dir, all[a], all[b])
			all[a] = mustMend(t, own{}, block, all[a], all[b])
		}
		for _, is := range all {
			for _, was := range first {
				if fault := lacking(is, was, is); fault != "" || below(is.Block.Stamp, was.Block.Stamp) {
					t.Fatalf("%+v does not hold what %+v held: %s", is, was, fault)
				}
			}
			if is.Block.Stamp != all[0].Block.Stamp {
				t.Fatalf("unlike blocks: %v, %v", is.Block, all[0].Block)
			}
		}
	}
}

// Whatever an answer says, and whoever's it is: nothing is lowered.
func TestP1205EveryAnswer(t *testing.T) {
	t.Parallel()
	for _, ends := range [][2]int{{0, 3}, {last - 3, last}} {
		replies := allReplies(ends[0]-1, ends[1]+6)
		for _, h := range helds(ends[0], ends[1], 4) {
			mustNotLower(t, own{}, h, replies)
		}
	}
}

func mustNotLower(t *testing.T, r mender, h mend.Held, replies []api.Msg) {
	for _, m := range replies {
		list, _, _ := r.Take(m, h)
		if fault := lowered(h, lay(h, list)); fault != "" {
			t.Helper()
			t.Fatalf("Take(%+v, %+v): %s", m, h, fault)
		}
	}
}

func TestP1205LongRows(t *testing.T) {
	t.Parallel()
	r := rand.New(rand.NewSource(8))
	for range 400 {
		h, of := aPair(r)
		var replies []api.Msg
		for range 8 {
			m := mend.Have(asks(max(1, topOf(of)-r.Intn(300))), of)
			for i := range m.Commands {
				if r.Intn(4) == 0 {
					m.Commands[i] = other(i)
				}
			}
			replies = append(replies, m, answersBlock(stamp(r.Intn(4), r.Intn(4)), "xyz"))
		}
		mustNotLower(t, own{}, h, replies)
	}
}

// foundOut plays mends of a wrong rule; it tells whether one shows a fault.
func foundOut(r mender) bool {
	all := helds(0, 2, 4)
	for _, a := range all {
		for _, b := range all {
			if _, _, fault := mended(r, dir, a, b); fault != "" {
				return true
			}
		}
		for _, m := range allReplies(1, 3) {
			if list, _, _ := r.Take(m, a); lowered(a, lay(a, list)) != "" {
				return true
			}
		}
	}
	source := rand.New(rand.NewSource(9))
	for range 300 {
		a, b := aPair(source)
		if _, _, fault := mended(r, dir, a, b); fault != "" {
			return true
		}
	}
	_, _, fault := mended(r, block, holding(stamp(3, 4), "abc"), holding(stamp(3, 1), "abc"))
	return fault != ""
}

// Each of these rules, broken on purpose, is found out by the plays; the plain ones are not.
func TestP1206WrongRulesAreFoundOut(t *testing.T) {
	t.Parallel()
	for _, r := range []mender{own{}, plain{}} {
		if foundOut(r) {
			t.Errorf("%#v is no wrong rule", r)
		}
	}
	for _, wrong := range []string{
		"asks from the top", "asks from what is trimmed", "trimmed alike is not told", "no more behind a bucket", "no more behind commands", "the accepted are told",
		"gaps are closed", "more and more", "each block is newer", "each bucket is newer", "what is decided is decided again", "asks on from the edge",
	} {
		if !foundOut(plain{wrong}) {
			t.Errorf("not found out: %s", wrong)
		}
	}
}
