package world_test

import (
	"slices"
	"testing"

	"cairn/api"
)

func TestExample1(t *testing.T) {
	w := fresh(t)
	do(t, w, invoke(5, create("plum")))
	mustUnder(t, w, "c5.1", "c5.2", "c5.3")
	for i, p := range w.Under() {
		if p.To != node([]int{20, 30, 10}[i]) {
			t.Errorf("%+v", p)
		}
	}
	if !w.Pending(5) || w.Do(invoke(5, create("oar"))) != api.ErrBusy || w.Do(invoke(7, create("oar"))) != api.ErrAddr {
		t.Error("Pending, ErrBusy, ErrAddr")
	}
}

func TestExample2(t *testing.T) {
	w := fresh(t)
	do(t, w, invoke(5, create("plum")), deliver(user(5), 1))
	mustUnder(t, w, "c5.2", "c5.3", "s20.1")
	if err := w.Do(deliver(user(5), 1)); err != api.ErrPacket {
		t.Error(err)
	}
	do(t, w, double(node(20), 1))
	mustUnder(t, w, "c5.2", "c5.3", "s20.1", "s20.1")
}

func TestExample3(t *testing.T) {
	w := fresh(t)
	do(t, w, invoke(5, create("plum")), deliver(user(5), 1), double(node(20), 1))
	if n := w.Fair(5, 9); n != 2 {
		t.Fatal(n)
	}
	lines := w.History()
	if !slices.Equal(kinds(lines), []int{api.HInvoke, api.HLearn, api.HReturn}) || lines[1].Key != at(3, 1) {
		t.Errorf("%+v", lines)
	}
	under := w.Under()
	for _, p := range under {
		if decoded(t, small(), p).Kind != api.MLearned {
			t.Errorf("%+v", p)
		}
	}
	if len(under) != 3 {
		t.Errorf("%v", names(under))
	}
}

func TestExample4(t *testing.T) {
	w := fresh(t)
	from, n := puts(t, w, 0, eight...)
	do(t, w, double(from, n), deliver(from, n))
	k := block(fileOf(5, 1), 0)
	if w.Block(20, k).Stamp.N != 1 {
		t.Fatal("it holds nothing")
	}
	do(t, w, fall(20, 0), deliver(from, n))
	if x := w.Block(20, k); w.Up(20) || x.Stamp.N != 0 || len(x.Data) > 0 {
		t.Errorf("up %v, %+v", w.Up(20), x)
	}
	do(t, w, start(20))
	if !w.Up(20) || w.Block(20, k).Stamp.N != 1 {
		t.Errorf("up %v", w.Up(20))
	}
}

func TestExample5(t *testing.T) {
	w := fresh(t)
	for _, x := range []struct {
		e    api.Event
		want api.Errno
	}{
		{fall(20, -1), api.ErrEvent}, {api.Event{Kind: api.EFall, Server: 20, Client: 5}, api.ErrEvent}, {api.Event{Kind: 14}, api.ErrEvent},
		{junk(20, 1, 2, 3), api.OK}, {trim(20, 4, 0), api.ErrBucket},
	} {
		if err := w.Do(x.e); err != x.want {
			t.Errorf("%+v: %v, not %v", x.e, err, x.want)
		}
	}
}
