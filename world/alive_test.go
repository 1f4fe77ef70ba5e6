package world_test

import (
	"fmt"
	"slices"
	"testing"

	"cairn/api"
)

// pendingOp is what is pending at a client by the history; composite, if it is a part.
func pendingOp(w scene, client int) (o api.Op, composite bool) {
	for _, l := range w.History() {
		if l.Client != client {
			continue
		}
		switch l.Kind {
		case api.HInvoke:
			o = l.Op
		case api.HBegin:
			composite = true
		case api.HEnd:
			composite = false
		}
	}
	return o, composite
}

// decided is how many instances of a bucket are, by what all its servers hold. (They must all be up.)
func (h hall) decided(w scene, number int) int {
	group := groupOf(h.c, bucketKey(number))
	isDecided := func(v int) bool {
		accepted := map[api.Stamp]int{}
		for _, id := range group {
			x := w.Instance(id, at(number, v))
			if x.Decided || w.Bucket(id, number).Upto >= v {
				return true
			}
			if accepted[x.Accepted]++; x.Accepted.N > 0 && accepted[x.Accepted] > h.c.F {
				return true
			}
		}
		return false
	}
	k := 0
	for isDecided(k + 1) {
		k++
	}
	return k
}

// life is how an operation came to its end.
type life struct {
	block   bool
	k, took int
}

func (l life) bound() int {
	if l.block {
		return 2
	}
	return 2*(l.k+1) + 2 + l.k + 2
}

// live takes a client's operation to its end, with at least F + 1 servers of its group up and none armed.
func (h hall) live(t testing.TB, r lot, w scene, client int, o api.Op) life {
	t.Helper()
	for _, id := range h.c.Servers { // all are up for a while, so that what is decided can be told
		do(t, w, again(id)...)
	}
	k := keyOf(h.c, o)
	l := life{block: isBlock(o)}
	if !l.block {
		l.k = h.decided(w, k.A)
	}
	group := groupOf(h.c, k)
	r.Shuffle(len(group), func(i, j int) { group[i], group[j] = group[j], group[i] })
	up := group[:h.c.F+1+r.Intn(h.c.F+1)]
	for _, id := range h.c.Servers {
		if !slices.Contains(up, id) && (slices.Contains(group, id) || r.Intn(2) == 0) {
			do(t, w, felled(id)...)
		}
	}
	l.took = w.Fair(client, l.bound()+5)
	return l
}

// alive plays up to some state, and takes what is pending to its end from there; it tells the first that takes too long.
func (h hall) alive(t testing.TB, r lot, w scene, seen map[life]int) string {
	t.Helper()
	stopped := map[int]bool{}
	for range 6 {
		for range r.Intn(150) {
			e := r.event(w)
			if e.Kind == api.EQuota || e.Kind == api.EStop && len(stopped) > 0 && !stopped[e.Client] {
				continue
			}
			if err := w.Do(e); e.Kind == api.EStop && err == api.OK {
				stopped[e.Client] = true
			}
		}
		client := r.client()
		if !w.Pending(client) {
			w.Do(invoke(client, r.op(w)))
		}
		o, composite := pendingOp(w, client)
		if stopped[client] || composite || !w.Pending(client) {
			continue
		}
		l := h.live(t, r, w, client, o)
		if l.took < 1 || l.took > l.bound() || w.Pending(client) {
			return fmt.Sprintf("%+v: %+v, at most %d", o, l, l.bound())
		}
		seen[l]++
	}
	return ""
}

// roomy halls have disks that are wide enough.
func roomyHalls() []hall {
	var all []hall
	for _, h := range halls() {
		h.sectors = 900
		all = append(all, h)
	}
	return append(all, hall{api.Config{Servers: []int{1, 2, 3, 4, 5, 6, 7, 8, 9}, F: 3, Points: 5, Buckets: 2, Block: 2, Room: 2}, []int{1, 2, 3, 4}, 900})
}

func TestP1710Alive(t *testing.T) {
	t.Parallel()
	for _, h := range roomyHalls() {
		t.Run(fmt.Sprintf("%d servers, F %d, %v", len(h.c.Servers), h.c.F, h.clients), func(t *testing.T) {
			t.Parallel()
			seen := map[life]int{}
			for seed := range int64(60) {
				if fault := h.alive(t, h.lot(t, seed), h.made(t), seen); fault != "" {
					t.Fatalf("seed %d: %s", seed, fault)
				}
			}
			var blocks, long, far int
			for l, n := range seen {
				switch {
				case l.block && l.took == 2:
					blocks += n
				case l.took > 2:
					long += n
				}
				if l.k > 3 {
					far += n
				}
			}
			if blocks < 5 || long < 5 || far < 5 {
				t.Errorf("too few to tell: %d blocks, %d long, %d far: %v", blocks, long, far, seen)
			}
		})
	}
}

// Worlds in which an operation takes longer are found out.
func TestP1710WrongRulesAreFoundOut(t *testing.T) {
	t.Parallel()
	for _, wrong := range []string{
		"Fair delivers once an exchange", "Fair does not tick", "what a server answers is lost", "a disk stays armed", "a tick sends nothing",
	} {
		t.Run(wrong, func(t *testing.T) {
			t.Parallel()
			for seed := range int64(60) {
				h := roomyHalls()[seed%2]
				if h.alive(t, h.lot(t, seed), newPlain(h, wrong), map[life]int{}) != "" {
					return
				}
			}
			t.Error("it is not found out")
		})
	}
}

// Alone, with any F servers down: the chapter's numbers exactly.
func TestP1710Alone(t *testing.T) {
	t.Parallel()
	for _, c := range []api.Config{small(), wide(), least()} {
		w := made(t, c, 900, 5)
		name, f := nameIn(c, 0, 0), fileOf(5, 1)
		data := make([]byte, c.Block)
		data[0] = 9
		for i, x := range []struct {
			o    api.Op
			want int
		}{{create(name), 2}, {read(f, 0), 1}, {write(f, 0, data...), 2}, {read(f, 0), 1}, {lookup(name), 2}, {list(0), 2}, {remove(name), 2}} {
			group := groupOf(c, keyOf(c, x.o))
			for _, id := range group[:c.F] {
				do(t, w, felled(id)...)
			}
			do(t, w, invoke(5, x.o))
			if n := w.Fair(5, 9); n != x.want || lastResult(w, 5).Err != api.OK {
				t.Errorf("%d: %+v: %d exchanges, not %d", i, x.o, n, x.want)
			}
			deliverAll(t, w)
			for _, id := range group[:c.F] {
				do(t, w, start(id))
				for _, other := range group[c.F:] {
					do(t, w, mend(id, other, keyOf(c, x.o)))
					deliverAll(t, w)
				}
			}
		}
	}
}

// A read that finds two tags, one of them at a single server, takes the second exchange.
func TestP1710ReadOfTwoTags(t *testing.T) {
	t.Parallel()
	w := fresh(t)
	from, n := puts(t, w, 0, eight...)
	do(t, w, deliver(from, n))
	do(t, w, felled(10)...)
	do(t, w, invoke(6, read(fileOf(5, 1), 0)))
	if n := w.Fair(6, 9); n != 2 || !slices.Equal(lastResult(w, 6).Data, eight) || w.Block(30, block(fileOf(5, 1), 0)).Stamp.N != 1 {
		t.Fatalf("%d, %+v", n, lastResult(w, 6))
	}
	if n := w.Fair(5, 9); n != 1 {
		t.Fatal(n)
	}
}

// A client that has learned nothing comes through k decided instances.
func TestP1710FarBehind(t *testing.T) {
	t.Parallel()
	for k := range 8 {
		for _, told := range []bool{false, true} {
			w := made(t, small(), 900, 5, 6)
			for range k {
				run(t, w, 5, lookup("plum"))
				if told {
					deliverAll(t, w)
				}
			}
			do(t, w, invoke(6, create("plum")))
			n := w.Fair(6, 99)
			if n < 1 || n > 2*(k+1)+2+k+2 || lastResult(w, 6).Instance != k+1 {
				t.Fatalf("%d decided: %d exchanges, %+v", k, n, lastResult(w, 6))
			}
			if want := 2 * (k + 1); !told && n < want {
				t.Fatalf("%d decided, nobody was told: %d exchanges", k, n)
			}
		}
	}
}
