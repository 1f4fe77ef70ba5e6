package world_test

import (
	"bytes"
	"fmt"
	"maps"
	"slices"
	"testing"

	"cairn/api"
	"cairn/disk"
	"cairn/server"
	"cairn/stable"
	"cairn/world"
)

// records are all that lie on a server's disk.
func records(t testing.TB, w scene, c api.Config, id int) map[api.Key]string {
	t.Helper()
	image, err := w.Image(id)
	if err != api.OK {
		t.Fatal(err)
	}
	d, _ := disk.Load(image)
	s, err := stable.Open(d, server.Most(c))
	if err != api.OK {
		t.Fatal(err)
	}
	all := map[api.Key]string{}
	for k, b := range s.All() {
		all[k] = string(b)
	}
	return all
}

// deed is a step of server 20 that lays down records, or drops them: the keys, in their order.
type deed struct {
	name    string
	ready   func(t testing.TB) (*world.World, api.Event) // a world, and the event that is the step
	changes []api.Key
}

// toServer is the delivery of the last packet under way to server 20 of a kind.
func toServer(t testing.TB, w scene, kind int) api.Event {
	t.Helper()
	for _, p := range slices.Backward(w.Under()) {
		if p.To == node(20) && decoded(t, small(), p).Kind == kind {
			return deliver(p.From, p.Count)
		}
	}
	t.Fatalf("no message %d is under way", kind)
	return api.Event{}
}

// begun is client 5's command of the chapter's examples, so many deliveries of all that is under way later.
func begun(t testing.TB, times int) *world.World {
	t.Helper()
	w := made(t, small(), 60, 5, 6)
	do(t, w, invoke(5, create("plum")))
	for range times {
		for _, p := range w.Under() {
			do(t, w, deliver(p.From, p.Count))
		}
	}
	return w
}

// grown has three commands decided and known in bucket 3; but server 20 knows only the first so many.
func grown(t testing.TB, known int) *world.World {
	t.Helper()
	w := made(t, small(), 60, 5, 6)
	for i, o := range []api.Op{create("plum"), remove("plum"), create("plum")} {
		if i == known {
			do(t, w, felled(20)...)
		}
		run(t, w, 5, o)
		deliverAll(t, w)
	}
	do(t, w, start(20))
	return w
}

// asked has server 20 ask server 30 for what is newer; its answer is under way.
func asked(t testing.TB, w *world.World, k api.Key) (*world.World, api.Event) {
	t.Helper()
	do(t, w, mend(20, 30, k))
	do(t, w, deliver(node(20), lastOf(t, w, node(20))))
	return w, toServer(t, w, api.MHave)
}

// written has a block written while server 20 was down.
func written(t testing.TB) *world.World {
	t.Helper()
	w := made(t, small(), 60, 5, 6)
	do(t, w, felled(20)...)
	run(t, w, 5, write(fileOf(5, 1), 0, eight...))
	do(t, w, start(20))
	return w
}

// deeds of all kinds.
func deeds() []deed {
	k := block(fileOf(5, 1), 0)
	one, two, three, dir := at(3, 1), at(3, 2), at(3, 3), bucketKey(3)
	message := func(times, kind int) func(t testing.TB) (*world.World, api.Event) {
		return func(t testing.TB) (*world.World, api.Event) {
			w := begun(t, times)
			return w, toServer(t, w, kind)
		}
	}
	return []deed{
		{"MPrepare", message(0, api.MPrepare), []api.Key{one}},
		{"MAccept", message(2, api.MAccept), []api.Key{one}},
		{"MLearned", message(4, api.MLearned), []api.Key{one}},
		{"MPut", func(t testing.TB) (*world.World, api.Event) {
			w := made(t, small(), 60, 5, 6)
			return w, deliver(puts(t, w, 0, eight...))
		}, []api.Key{k}},
		{"MPut in another's place", func(t testing.TB) (*world.World, api.Event) {
			w := made(t, small(), 60, 5, 6)
			run(t, w, 5, write(fileOf(5, 1), 0, eight...))
			deliverAll(t, w)
			return w, deliver(puts(t, w, 0, make([]byte, 8)...))
		}, []api.Key{k}},
		{"ETrim", func(t testing.TB) (*world.World, api.Event) { return grown(t, 9), trim(20, 3, 3) }, []api.Key{dir, one, two, three}},
		{"ETrim of some", func(t testing.TB) (*world.World, api.Event) { return grown(t, 9), trim(20, 3, 2) }, []api.Key{dir, one, two}},
		{"ETrim once more", func(t testing.TB) (*world.World, api.Event) {
			w := grown(t, 9)
			do(t, w, trim(20, 3, 1))
			return w, trim(20, 3, 9)
		}, []api.Key{dir, two, three}},
		{"MHave of commands", func(t testing.TB) (*world.World, api.Event) { return asked(t, grown(t, 0), dir) }, []api.Key{one, two, three}},
		{"MHave of a bucket", func(t testing.TB) (*world.World, api.Event) {
			w := grown(t, 2)
			do(t, w, trim(30, 3, 3))
			return asked(t, w, dir)
		}, []api.Key{dir, one, two}},
		{"MHave of a block", func(t testing.TB) (*world.World, api.Event) { return asked(t, written(t), k) }, []api.Key{k}},
	}
}

// fronts are the records behind none, the first, the first two .. of a deed's changes.
func (d deed) fronts(t testing.TB) []map[api.Key]string {
	t.Helper()
	w, e := d.ready(t)
	now := records(t, w, small(), 20)
	all := []map[api.Key]string{now}
	do(t, w, e)
	end := records(t, w, small(), 20)
	for _, k := range d.changes {
		now = maps.Clone(now)
		if b, there := end[k]; there {
			now[k] = b
		} else {
			delete(now, k)
		}
		if maps.Equal(now, all[len(all)-1]) {
			t.Fatalf("%v is not changed", k)
		}
		all = append(all, now)
	}
	if !maps.Equal(now, end) || !w.Up(20) {
		t.Fatal("there is more that is changed")
	}
	return all
}

// mustGoOn: the same step brings the server that is started to its end. (A fall may leave records of instances that are forgotten, which count no more.)
func (d deed) mustGoOn(t testing.TB, w *world.World, e api.Event, end map[api.Key]string) {
	t.Helper()
	do(t, w, e)
	got := records(t, w, small(), 20)
	upto := w.Bucket(20, 3).Upto
	maps.DeleteFunc(got, func(k api.Key, _ string) bool { return k.Kind == api.KInstance && k.B <= upto })
	if !w.Up(20) || !maps.Equal(got, end) {
		t.Fatal("it does not come to the same end behind a fall")
	}
}

// fallen does the deed with an event ahead of it, which lets server 20 fall; false: it did not. What is delivered is doubled ahead, to come once more.
func (d deed) fallen(t testing.TB, arm api.Event) (*world.World, api.Event, bool) {
	t.Helper()
	w, e := d.ready(t)
	if e.Kind == api.EDeliver {
		do(t, w, double(e.Addr, e.N))
	}
	do(t, w, arm)
	under := len(w.Under())
	err := w.Do(e)
	if w.Up(20) {
		return w, e, false
	}
	if e.Kind == api.EDeliver && err != api.OK || e.Kind == api.ETrim && err != api.ErrFallen {
		t.Fatalf("%+v: %v", e, err)
	}
	if e.Kind == api.EDeliver && len(w.Under()) != under-1 {
		t.Fatal("it has answered as it fell")
	}
	do(t, w, start(20))
	if !w.Up(20) {
		t.Fatal("it is not up again")
	}
	return w, e, true
}

// EFall at each record of each deed: behind the first so many.
func TestP1711FallAtEachRecord(t *testing.T) {
	t.Parallel()
	for _, d := range deeds() {
		t.Run(d.name, func(t *testing.T) {
			t.Parallel()
			all := d.fronts(t)
			for n := range len(all) + 3 {
				w, e, fell := d.fallen(t, fall(20, n))
				if !fell {
					t.Fatalf("EFall %d: it has not fallen", n)
				}
				if got := records(t, w, small(), 20); !maps.Equal(got, all[min(n, len(d.changes))]) {
					t.Fatalf("EFall %d: it holds %v", n, slices.Collect(maps.Keys(got)))
				}
				mustHold(t, w)
				d.mustGoOn(t, w, e, all[len(d.changes)])
			}
		})
	}
}

// mustHold: what the server tells is what a new one tells over the same disk.
func mustHold(t testing.TB, w *world.World) {
	t.Helper()
	image, _ := w.Image(20)
	d, _ := disk.Load(image)
	s, err := server.New(small(), 20, d)
	if err != api.OK {
		t.Fatal(err)
	}
	k := block(fileOf(5, 1), 0)
	if !sameBlock(w.Block(20, k), s.Block(k)) || !sameBucket(w.Bucket(20, 3), s.Bucket(3)) {
		t.Fatalf("%+v, %+v", w.Block(20, k), w.Bucket(20, 3))
	}
	for n := range 5 {
		if w.Instance(20, at(3, n)) != s.Instance(at(3, n)) {
			t.Fatalf("%+v", w.Instance(20, at(3, n)))
		}
	}
}

// ETear at each write of each deed, torn at each byte: behind some number of its records, no less at a later write.
func TestP1711TearAtEachByte(t *testing.T) {
	t.Parallel()
	for _, d := range deeds() {
		all := d.fronts(t)
		writes := 0
		for fell := true; fell; writes++ {
			_, _, fell = d.fallen(t, tear(20, writes, 0))
		}
		if writes--; writes < len(d.changes) {
			t.Fatalf("%s: %d writes", d.name, writes)
		}
		for write := range writes {
			t.Run(fmt.Sprintf("%s, write %d", d.name, write), func(t *testing.T) {
				t.Parallel()
				least := 0
				for torn := range api.Sector + 2 {
					w, e, fell := d.fallen(t, tear(20, write, torn))
					if !fell {
						t.Fatalf("torn at %d: it has not fallen", torn)
					}
					got := records(t, w, small(), 20)
					n := slices.IndexFunc(all, func(front map[api.Key]string) bool { return maps.Equal(front, got) })
					if n < least {
						t.Fatalf("torn at %d: it holds %v, behind %d records", torn, slices.Collect(maps.Keys(got)), n)
					}
					if torn == 0 {
						least = n
					}
					mustHold(t, w)
					if torn%64 == 0 || torn > 500 {
						d.mustGoOn(t, w, e, all[len(d.changes)])
					}
				}
			})
		}
	}
}

// Both at once, and in rows: whatever falls, what is started holds is what was held behind some number of records.
func TestP1711BothAtOnce(t *testing.T) {
	t.Parallel()
	for _, d := range deeds() {
		t.Run(d.name, func(t *testing.T) {
			t.Parallel()
			all := d.fronts(t)
			for n := range len(d.changes) + 2 {
				for write := range 2*len(d.changes) + 2 {
					w, e := d.ready(t)
					if e.Kind == api.EDeliver {
						do(t, w, double(e.Addr, e.N))
					}
					do(t, w, tear(20, write, 77), fall(20, n))
					w.Do(e)
					if w.Up(20) {
						t.Fatalf("EFall %d, ETear %d: it has not fallen", n, write)
					}
					do(t, w, start(20))
					got := records(t, w, small(), 20)
					at := slices.IndexFunc(all, func(front map[api.Key]string) bool { return maps.Equal(front, got) })
					if at < 0 || at > n {
						t.Fatalf("EFall %d, ETear %d: behind %d records", n, write, at)
					}
					d.mustGoOn(t, w, e, all[len(d.changes)]) // armed no more
				}
			}
		})
	}
}

// A fall between two steps changes nothing.
func TestP1711FallBetweenSteps(t *testing.T) {
	t.Parallel()
	for _, d := range deeds() {
		w, e := d.ready(t)
		was, _ := w.Image(20)
		do(t, w, again(20)...)
		if now, _ := w.Image(20); !bytes.Equal(now, was) {
			t.Fatalf("%s: the disk has changed", d.name)
		}
		d.mustGoOn(t, w, e, d.fronts(t)[len(d.changes)])
	}
}
