package client_test

import (
	"testing"

	"cairn/api"
)

// Done tells of the operation that was invoked last, whatever it was done by and whoever was refused since.
func TestP1406Done(t *testing.T) {
	c := fresh(t)
	refuse := func() {
		t.Helper()
		for want, o := range wrongOps() {
			if c.Pending() {
				want = api.ErrBusy
			}
			mustRefuse(t, c, o, want)
		}
	}
	refuse()
	decide(t, c, create("plum"), plum)
	created := api.Result{Entry: entry("plum", file(5, 1), 0), Instance: 1}
	mustReturn(t, c, created)
	refuse()
	mustReturn(t, c, created)
	k := block(file(5, 1), 0)
	a, group := ask{op: 2, round: 3, key: k}, groupOf(four(), k)
	mustInvoke(t, c, read(file(5, 1), 0), a.queries(group...)...)
	mustPend(t, c)
	refuse()
	mustPend(t, c)
	mustStep(t, c, a.value(10, stamp(0, 0), "\x00\x00\x00\x00\x00\x00\x00\x00"))
	mustPend(t, c)
	mustStep(t, c, a.value(20, stamp(0, 0), "\x00\x00\x00\x00\x00\x00\x00\x00"))
	mustReturn(t, c, api.Result{Data: make([]byte, 8)})
	// The chain of that bucket has a result of its own still, but it is not asked for that.
	b := ask{op: 3, round: 4, ballot: 2, key: at(3, 2)}
	mustInvoke(t, c, create("plum"), b.prepares(20, 30, 10)...)
	mustPend(t, c)
	mustTick(t, c, b.prepares(20, 30, 10)...)
	mustPend(t, c)
	mustStep(t, c, b.known(20, commandOf(create("plum"), me, 3)))
	mustReturn(t, c, api.Result{Err: api.ErrExists, Entry: entry("plum", file(5, 1), 0), Instance: 2})
	if c.Number() != 3 {
		t.Errorf("the number %d", c.Number())
	}
}

// An instance, a tag and a ballot at their ends: the operation returns ErrWorn, and that alone.
func TestP1405Worn(t *testing.T) {
	worn := api.Result{Err: api.ErrWorn}
	group := []int{20, 30, 10}
	c := fresh(t)
	mustInvoke(t, c, create("plum"), plum.prepares(group...)...)
	mustPassOver(t, c, plum.nack(10, api.MaxNum, 9))
	mustTick(t, c)
	mustReturn(t, c, worn)
	// No ballot is left, in no bucket: the next command returns with its Invoke, and has its number.
	for n := 2; n <= 4; n++ {
		mustInvoke(t, c, list(n-1))
		mustReturn(t, c, worn)
		if c.Number() != n {
			t.Errorf("the number %d", c.Number())
		}
	}
	mustNews(t, c)
	// Blocks need none. The rounds of those that asked nothing were told all the same.
	k := block(file(5, 1), 0)
	writeIt(t, c, write(file(5, 1), 0, "8 bytes."), ask{op: 5, round: 5, key: k}, stamp(3, 3))
	a := ask{op: 6, round: 7, key: k}
	of := groupOf(four(), k)
	mustInvoke(t, c, write(file(5, 1), 0, "8 bytes."), a.queries(of...)...)
	mustPassOver(t, c, a.value(10, stamp(api.MaxNum, 1), "the last"))
	mustStep(t, c, a.value(20, stamp(1, 1), "long ago"))
	mustReturn(t, c, worn)
	readIt(t, c, read(file(5, 1), 0), ask{op: 7, round: 8, key: k}, stamp(api.MaxNum, 1), "the last")
}

// The last ballot that there is may be used.
func TestP1405LastBallot(t *testing.T) {
	c := fresh(t)
	group := []int{20, 30, 10}
	mustInvoke(t, c, create("plum"), plum.prepares(group...)...)
	mustPassOver(t, c, plum.nack(10, api.MaxNum-1, 9))
	last := ask{op: 1, round: 2, ballot: api.MaxNum, key: at(3, 1)}
	mustTick(t, c, last.prepares(group...)...)
	mustPassOver(t, c, last.promise(10))
	mustStep(t, c, last.promise(20), last.second().accepts(plumCommand, group...)...)
	mustPassOver(t, c, last.second().accepted(10))
	mustStep(t, c, last.second().accepted(30), last.second().learned(plumCommand, group...)...)
	mustReturn(t, c, api.Result{Entry: entry("plum", file(5, 1), 0), Instance: 1})
	mustInvoke(t, c, lookup("plum"))
	mustReturn(t, c, api.Result{Err: api.ErrWorn})
	mustNews(t, c, item{at(3, 1), plumCommand})
}

// The last instance that there is may be decided; behind it the bucket takes no command, others do.
func TestP1405LastInstance(t *testing.T) {
	c := fresh(t)
	group := []int{20, 30, 10}
	mustInvoke(t, c, create("plum"), plum.prepares(group...)...)
	last := ask{op: 1, round: 2, ballot: 2, key: at(3, api.MaxInstance)}
	mustStep(t, c, plum.trimmed(30, bucketUpto(api.MaxInstance-1, 0)), last.prepares(group...)...)
	mustStep(t, c, last.known(30, plumCommand))
	mustReturn(t, c, api.Result{Entry: entry("plum", file(5, 1), 0), Instance: api.MaxInstance})
	mustNews(t, c, item{at(3, api.MaxInstance), plumCommand})
	mustInvoke(t, c, list(3))
	mustReturn(t, c, api.Result{Err: api.ErrWorn})
	decide(t, c, list(1), ask{op: 3, round: 3, ballot: 3, key: at(1, 1)}) // that one had no proposer: no round and no ballot was told
	mustInvoke(t, c, list(2), ask{4, 5, 4, at(2, 1)}.prepares(10, 20, 30)...)
	mustStep(t, c, ask{4, 5, 4, at(2, 1)}.trimmed(20, bucketUpto(api.MaxInstance, 0)))
	mustReturn(t, c, api.Result{Err: api.ErrWorn})
	mustNews(t, c, item{at(1, 1), commandOf(list(1), me, 3)})
	// A chain that makes no proposer any more tells the numbers of long ago: they bring nothing down.
	readIt(t, c, read(file(5, 1), 0), ask{5, 6, 0, block(file(5, 1), 0)}, stamp(1, 1), "8 bytes.")
	mustInvoke(t, c, list(3))
	mustReturn(t, c, api.Result{Err: api.ErrWorn})
	readIt(t, c, read(file(5, 1), 0), ask{7, 7, 0, block(file(5, 1), 0)}, stamp(1, 1), "8 bytes.")
	mustInvoke(t, c, list(3))
	mustReturn(t, c, api.Result{Err: api.ErrWorn})
	decide(t, c, list(1), ask{9, 8, 5, at(1, 2)})
}
