package world_test

import (
	"math"
	"slices"
	"testing"

	"cairn/api"
)

func mustLines(t testing.TB, got []api.Line, want ...api.Line) {
	t.Helper()
	if !slices.EqualFunc(got, want, sameLine) {
		t.Fatalf("lines\n%+v, not\n%+v", got, want)
	}
}

// Lines stand in the order in which they were made, whoever made them.
func TestP1706History(t *testing.T) {
	t.Parallel()
	w := fresh(t)
	f := fileOf(5, 1)
	do(t, w, invoke(5, create("plum")), invoke(6, read(f, 0)))
	invoked := []api.Line{
		{Kind: api.HInvoke, Client: 5, Number: 1, Op: create("plum")},
		{Kind: api.HInvoke, Client: 6, Number: 1, Op: read(f, 0)},
	}
	mustLines(t, w.History(), invoked...)
	w.Do(invoke(5, create("plum")))
	w.Do(invoke(7, create("plum")))
	mustLines(t, w.History(), invoked...)
	for _, p := range w.Under() {
		do(t, w, deliver(p.From, p.Count))
	}
	do(t, w, deliver(node(20), 2), deliver(node(30), 2)) // the read's answers
	mustLines(t, w.History(), append(invoked, api.Line{Kind: api.HReturn, Client: 6, Number: 1, Result: api.Result{Data: make([]byte, 8)}})...)
	w.Fair(5, 9)
	x := api.Command{Kind: api.CCreate, Client: 5, Op: 1, Name: "plum"}
	mustLines(t, w.History(), append(invoked,
		api.Line{Kind: api.HReturn, Client: 6, Number: 1, Result: api.Result{Data: make([]byte, 8)}},
		api.Line{Kind: api.HLearn, Key: at(3, 1), Command: x},
		api.Line{Kind: api.HReturn, Client: 5, Number: 1, Result: api.Result{Entry: api.Entry{Name: "plum", File: f}, Instance: 1}},
	)...)
}

// A composite operation's lines have those of its parts between them, and others' between these.
func TestP1706Parts(t *testing.T) {
	t.Parallel()
	w := fresh(t)
	run(t, w, 5, create("plum"))
	from := len(w.History())
	do(t, w, invoke(6, writeAt("plum", 3, 1, 2)))
	if n := w.Fair(6, 1); n != -1 {
		t.Fatal(n)
	}
	do(t, w, invoke(5, lookup("plum")))
	w.Fair(6, 99)
	lines := w.History()[from:]
	want := []int{api.HBegin, api.HInvoke, api.HInvoke, api.HLearn, api.HReturn, api.HInvoke, api.HReturn, api.HInvoke, api.HReturn, api.HInvoke, api.HLearn, api.HReturn, api.HEnd}
	if !slices.Equal(kinds(lines), want) || lines[2].Client != 5 {
		t.Fatalf("%v, not %v", kinds(lines), want)
	}
}

// Of one instance the first line alone, however many learn of it, and whatever the operation was.
func TestP1706LearnedOnce(t *testing.T) {
	t.Parallel()
	w := made(t, small(), 400, 5, 6, 7, 8)
	run(t, w, 5, create("plum"))
	run(t, w, 6, create("plum")) // learns instance 1, too
	run(t, w, 7, lookup("plum")) // 1, 2
	run(t, w, 5, list(3))        // 2, 3
	run(t, w, 8, list(2))        // another bucket's 1
	var keys []api.Key
	for _, l := range w.History() {
		if l.Kind == api.HLearn {
			keys = append(keys, l.Key)
			if l.Client != 0 || l.Number != 0 || l.Command.Op == 0 {
				t.Fatalf("%+v", l)
			}
		}
	}
	if want := []api.Key{at(3, 1), at(3, 2), at(3, 3), at(3, 4), at(2, 1)}; !slices.Equal(keys, want) {
		t.Fatalf("%v, not %v", keys, want)
	}
}

// Two who learn of one instance at the same time: whoever is first, there is one line.
func TestP1706LearnedByTwo(t *testing.T) {
	t.Parallel()
	for _, first := range []int{5, 6} {
		w := fresh(t)
		run(t, w, 5, create("plum"))
		do(t, w, invoke(5, list(3)), invoke(6, lookup("plum")))
		if n := w.Fair(first, 20); n < 0 {
			t.Fatal(n)
		}
		if n := w.Fair(11-first, 20); n < 0 {
			t.Fatal(n)
		}
		seen := map[api.Key]int{}
		for _, l := range w.History() {
			if l.Kind == api.HLearn {
				seen[l.Key]++
			}
		}
		if len(seen) != 3 || seen[at(3, 1)] != 1 || seen[at(3, 2)] != 1 || seen[at(3, 3)] != 1 {
			t.Fatalf("%v", seen)
		}
	}
}

// What a client learns of another's command with a return that is not its own yet is told as it is learned.
func TestP1706LearnedAheadOfTheReturn(t *testing.T) {
	t.Parallel()
	w := fresh(t)
	run(t, w, 5, create("plum"))
	deliverAll(t, w)
	do(t, w, invoke(6, lookup("plum")))
	from := len(w.History())
	do(t, w, deliver(user(6), 1))
	do(t, w, deliver(node(20), lastOf(t, w, node(20)))) // MKnown: instance 1, which is told already
	if len(w.History()) != from {
		t.Fatalf("%+v", w.History()[from:])
	}
	w.Fair(6, 9)
	if got := kinds(w.History()[from:]); !slices.Equal(got, []int{api.HLearn, api.HReturn}) {
		t.Fatalf("%v", got)
	}
}

// lastOf is the count of the last packet of a sender that is under way.
func lastOf(t testing.TB, w scene, from api.Addr) int {
	t.Helper()
	for _, p := range slices.Backward(w.Under()) {
		if p.From == from {
			return p.Count
		}
	}
	t.Fatalf("nothing of %v is under way", from)
	return 0
}

// Under tells whole packets, in the order in which they came under way.
func TestP1706Under(t *testing.T) {
	t.Parallel()
	w := fresh(t)
	do(t, w, invoke(6, read(fileOf(5, 1), 0)), invoke(5, create("plum")), mend(10, 20, bucketKey(0)), deliver(user(6), 2), double(user(5), 1), tick(6))
	mustUnder(t, w, "c6.1", "c6.3", "c5.1", "c5.2", "c5.3", "s10.1", "s30.1", "c5.1", "c6.4", "c6.5", "c6.6")
	for _, p := range w.Under() {
		m := decoded(t, small(), p)
		if m.From != p.From || m.To != p.To {
			t.Errorf("%+v: %+v", p, m)
		}
	}
}

func TestP1707ImageAndUp(t *testing.T) {
	t.Parallel()
	w := fresh(t)
	zeros, _ := w.Image(20)
	run(t, w, 5, create("plum"))
	was, err := w.Image(20)
	if err != api.OK || len(was) != 400*512 || slices.Equal(was, zeros) {
		t.Fatalf("%v, %d bytes", err, len(was))
	}
	do(t, w, felled(20)...)
	if now, err := w.Image(20); err != api.OK || !slices.Equal(now, was) || w.Up(20) || !w.Up(10) || !w.Up(30) {
		t.Fatalf("%v, up %v", err, w.Up(20))
	}
	for _, id := range []int{0, 5, 6, 21, -20, 256, math.MinInt, math.MaxInt} {
		if b, err := w.Image(id); err != api.ErrAddr || len(b) > 0 || w.Up(id) {
			t.Errorf("%d: %d bytes, %v, up %v", id, len(b), err, w.Up(id))
		}
	}
}

// A write that is torn lies on the disk as far as it came, as Image tells at once, also where the server is down.
func TestP1707ImageOfATornWrite(t *testing.T) {
	t.Parallel()
	for _, torn := range []int{0, 1, 100, 511, 512, 1000} {
		w, whole := fresh(t), fresh(t)
		from, n := puts(t, w, 0, eight...)
		puts(t, whole, 0, eight...)
		was, _ := w.Image(20)
		do(t, w, tear(20, 0, torn), deliver(from, n))
		do(t, whole, deliver(from, n))
		now, _ := w.Image(20)
		then, _ := whole.Image(20)
		differ := 0
		for i := range now {
			if now[i] != was[i] {
				differ++
			}
			if now[i] != was[i] && now[i] != then[i] {
				t.Fatalf("torn at %d: byte %d is neither old nor new", torn, i)
			}
		}
		if w.Up(20) || torn == 0 && differ > 0 || torn >= 512 && differ == 0 {
			t.Fatalf("torn at %d: up %v, %d bytes differ", torn, w.Up(20), differ)
		}
	}
}

func TestP1707Pending(t *testing.T) {
	t.Parallel()
	w := fresh(t)
	if w.Pending(5) || w.Pending(6) {
		t.Fatal("something is pending at first")
	}
	do(t, w, invoke(5, create("plum")), stop(5), stop(6))
	if !w.Pending(5) || w.Pending(6) {
		t.Fatal("EStop changes what is pending")
	}
	for _, id := range []int{0, 7, 10, 20, 30, -5, 256, math.MinInt} {
		if w.Pending(id) {
			t.Errorf("something is pending at %d", id)
		}
	}
}

// Of a composite operation all its parts are pending as one.
func TestP1707PendingOfParts(t *testing.T) {
	t.Parallel()
	w := fresh(t)
	run(t, w, 5, create("plum"))
	do(t, w, invoke(5, writeAt("plum", 0, 1, 2, 3)))
	for w.Fair(5, 1) < 0 {
		if !w.Pending(5) {
			t.Fatal("nothing is pending between two parts")
		}
	}
	if w.Pending(5) || lastResult(w, 5).N != 3 {
		t.Fatalf("%+v", lastResult(w, 5))
	}
}

func TestP1707Held(t *testing.T) {
	t.Parallel()
	w := fresh(t)
	run(t, w, 5, create("plum"))
	deliverAll(t, w)
	run(t, w, 5, write(fileOf(5, 1), 2, eight...))
	deliverAll(t, w)
	do(t, w, trim(30, 3, 1))
	k := block(fileOf(5, 1), 2)
	for _, id := range []int{10, 20, 30} {
		if x := w.Block(id, k); x.Stamp != (api.Stamp{N: 1, Client: 5}) || !slices.Equal(x.Data, eight) {
			t.Errorf("%d: %+v", id, x)
		}
		if x := w.Instance(id, at(3, 1)); x.Decided != (id != 30) {
			t.Errorf("%d: %+v", id, x)
		}
		if x := w.Bucket(id, 3); x.Upto != map[int]int{30: 1}[id] || len(x.Entries) != x.Upto || len(x.Lasts) != x.Upto {
			t.Errorf("%d: %+v", id, x)
		}
		for _, other := range []api.Key{{}, bucketKey(3), at(3, 2), at(3, 0), at(-1, 1), block(fileOf(5, 1), 0), {Kind: 9, A: 5}} {
			if x := w.Block(id, other); x.Stamp.N != 0 || len(x.Data) > 0 || w.Instance(id, other) != (api.Instance{}) {
				t.Errorf("%d: %v: %+v, %+v", id, other, x, w.Instance(id, other))
			}
		}
	}
	do(t, w, slices.Concat(felled(30), felled(20))...)
	for _, id := range []int{20, 30, 0, 5, 6, 21, -20, math.MinInt} {
		for number := -1; number < 6; number++ {
			if x := w.Bucket(id, number); x.Upto != 0 || len(x.Entries)+len(x.Lasts) > 0 {
				t.Errorf("%d: %+v", id, x)
			}
		}
		if x := w.Block(id, k); x.Stamp.N != 0 || len(x.Data) > 0 || w.Instance(id, at(3, 1)) != (api.Instance{}) {
			t.Errorf("%d: %+v", id, x)
		}
	}
}
