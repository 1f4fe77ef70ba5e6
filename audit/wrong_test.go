package audit_test

import (
	"math"
	"math/rand"
	"slices"
	"testing"

	"cairn/api"
	"cairn/audit"
	"cairn/disk"
	"cairn/server"
	"cairn/stable"
	"cairn/wire"
)

// mustEnd looks at images of which it is not said what is told: but every call ends, nothing is changed, and the same calls answer the same.
func mustEnd(t testing.TB, c api.Config, l []api.Image) {
	t.Helper()
	l = handed(l)
	was := copied(l)
	first, err := audit.Run(c, l, 1)
	second, other := audit.Run(c, l, api.MaxWorkers)
	if err != api.OK || other != api.OK || !slices.Equal(first, second) {
		t.Fatalf("Run: %v, %v, and %v, %v", first, err, second, other)
	}
	for _, k := range []api.Key{blockAt(0), dir(0), dir(1)} {
		if _, _, err := audit.Newest(c, l, k); err != api.OK {
			t.Fatalf("Newest(%v): %v", k, err)
		}
	}
	if !sameImages(copied(l), was) {
		t.Fatal("what was handed in is changed")
	}
}

// Disks that no Store has written, whatever lies there.
func TestP1JunkDisks(t *testing.T) {
	t.Parallel()
	c := three()
	r := rand.New(rand.NewSource(5))
	good := images(c, dir(1), known(1, 1, abc()...).with(blockAt(0), written(1, 1, 1, 2, 3)), records{dir(1): made(c, abc()...), at(1, 9): promised(1, 1)}, known(1, 2, abc()...).with(dir(0), made(c, z())))
	told := 0
	for round := range 400 {
		var l []api.Image
		for _, x := range good {
			data := slices.Clone(x.Data)
			sectors := len(data) / api.Sector
			switch (round + r.Intn(2)) % 5 {
			case 0:
				data = data[:api.Sector*(1+r.Intn(sectors))]
				r.Read(data)
			case 1: // sectors change places, or are there twice
				for range 1 + r.Intn(6) {
					a, b := r.Intn(sectors)*api.Sector, r.Intn(sectors)*api.Sector
					copy(data[a:a+api.Sector], data[b:b+api.Sector])
				}
			case 2:
				for range 1 + r.Intn(60) {
					data[r.Intn(len(data))] ^= byte(1 + r.Intn(255))
				}
			case 3: // a lesser disk than it was
				data = data[:api.Sector*(1+r.Intn(sectors))]
			case 4: // all of one byte
				spoil(data, byte(r.Intn(256)))
			}
			l = append(l, api.Image{Server: x.Server, Data: data})
		}
		mustEnd(t, c, l)
		if found, _ := audit.Run(c, l, 2); len(found) > 0 {
			told++
		}
	}
	if told < 20 {
		t.Errorf("of just %d of these disks a fault is told", told)
	}
}

// Disks of another configuration, with records of other lengths.
func TestP1OtherMost(t *testing.T) {
	c := three()
	for _, d := range []api.Config{
		{Servers: []int{1, 2, 3}, F: 1, Points: 1, Buckets: 9, Block: 2000, Room: 40}, {Servers: []int{1, 2, 3}, F: 1, Points: 1, Buckets: 1, Block: 1, Room: 1}, greatest(),
	} {
		l := []api.Image{
			image(d, 1, records{blockAt(0): written(1, 1, bytesOf(d, 9)...), dir(0): made(d, x()), at(0, 2): decided(y())}),
			image(d, 2, records{blockAt(0): written(1, 1, bytesOf(d, 8)...), dir(0): made(d, z()), at(0, 2): decided(z())}),
		}
		mustEnd(t, c, l)
	}
}

// Whatever numbers are handed in, every call ends.
func TestP1AnyNumbers(t *testing.T) {
	numbers := []int{math.MinInt, math.MinInt + 1, -1, 0, 1, 2, 3, 16, 17, 255, 256, api.MaxInstance, api.MaxNum + 1, math.MaxInt - 1, math.MaxInt}
	l := images(three(), dir(1), known(1, 1, abc()...))
	for _, a := range numbers {
		audit.Run(three(), l, a)
		audit.Run(three(), []api.Image{{Server: a}}, 1)
		audit.Run(api.Config{Servers: []int{a, a}, F: a, Points: a, Buckets: a, Block: a, Room: a}, l, 1)
		for _, b := range numbers {
			audit.Run(api.Config{Servers: []int{1, 2, a}, F: b, Points: 1, Buckets: a, Block: 1, Room: b}, l, 1)
			audit.Newest(api.Config{Servers: []int{1, 2, 3}, F: 1, Points: a, Buckets: b, Block: a, Room: b}, l, dir(1))
			for kind := -1; kind <= 4; kind++ {
				audit.Newest(three(), l, api.Key{Kind: kind, A: a, B: b, C: a})
			}
		}
	}
}

// A disk that fell in the middle of a write holds the old record or the new one, and what lies in pieces is no record.
func TestP1902TornDisks(t *testing.T) {
	t.Parallel()
	c := three()
	old, now := made(c, x()), made(c, x(), y())
	for writes := range 20 {
		for _, torn := range []int{0, 1, 57, 300, 511, 512} {
			d, err := disk.New(100)
			if err != api.OK {
				t.Fatal(err)
			}
			put(c, d, records{dir(1): old, at(1, 2): decided(y())})
			s, err := stable.Open(d, server.Most(c))
			if err != api.OK {
				t.Fatal(err)
			}
			d.Arm(writes, torn)
			if s.Put(dir(1), packed(c, now)) == api.OK {
				s.Drop(at(1, 2))
			}
			l := []api.Image{{Server: 2, Data: d.Image()}}
			mustFind(t, c, l)
			mustBeNewestBucket(t, c, l, 1, now)
		}
	}
}

// Records that msg refuses, by each of its errors.
func TestP1902EachErrorOfARecord(t *testing.T) {
	c := three()
	long := []byte{1, 0, 2, 0} // a length of MaxBytes + 1
	sum := wire.Sum(long)
	for i := range 4 {
		long = append(long, byte(sum>>(8*i)))
	}
	for _, k := range []api.Key{blockAt(0), dir(0), at(0, 1)} {
		good := packed(c, fine(c, k))
		summed := slices.Clone(good)
		summed[len(summed)-1]++
		for _, e := range []struct {
			b    []byte
			want api.Errno
		}{{good[:3], api.ErrCut}, {summed, api.ErrSum}, {long, api.ErrLong}, {append(slices.Clone(good), 1), api.ErrForm}, {wire.Seal([]byte{1}), api.ErrForm}} {
			if err := readAs(c, k.Kind, e.b); err != e.want {
				t.Fatalf("%v of kind %d: %v, not %v", e.b, k.Kind, err, e.want)
			}
			mustFind(t, c, of(c, k, e.b), fault(api.FRecord, k))
		}
	}
}
