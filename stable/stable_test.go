package stable_test

import (
	"bytes"
	"math"
	"slices"
	"testing"

	"cairn/api"
	"cairn/stable"
)

func TestP401OpenOfNothing(t *testing.T) {
	for _, m := range []stable.Most{{}, most, wide, {1 << 40, api.MaxBytes, api.MaxBytes, api.MaxBytes}, {math.MinInt, 0, api.MaxBytes, 1}} {
		for _, n := range []int{1, 2, 100, api.MaxSectors} {
			mustHave(t, opened(t, made(t, n), m), m, records{})
		}
	}
}

func TestP401ErrArg(t *testing.T) {
	down := made(t, 4)
	mustFall(t, down)
	for kind := 1; kind <= 3; kind++ {
		for _, n := range []int{math.MinInt, -1, api.MaxBytes + 1, math.MaxInt} {
			m := most
			m[kind] = n
			// A disk that has fallen is the later one of the two errors.
			for _, d := range []int{0, 1} {
				disk := down
				if d == 1 {
					disk = made(t, 4)
				}
				if s, err := stable.Open(disk, m); s != nil || err != api.ErrArg {
					t.Errorf("Open with %v: %v, %v", m, s, err)
				}
			}
		}
	}
}

func TestP401ErrFallen(t *testing.T) {
	d := made(t, 4)
	mustPut(t, opened(t, d, most), block(0), "stays", api.OK)
	mustFall(t, d)
	for range 2 {
		if s, err := stable.Open(d, most); s != nil || err != api.ErrFallen {
			t.Errorf("Open over a disk that has fallen: %v, %v", s, err)
		}
	}
	d.Start()
	mustHave(t, opened(t, d, most), most, records{block(0): "stays"})
}

func TestP401Records(t *testing.T) {
	d := made(t, 40)
	s := opened(t, d, wide)
	want := records{}
	for i, k := range []api.Key{instance(255, 1<<20), block(7), bucket(0), instance(0, 1), bucket(255), {Kind: api.KBlock, A: 255, B: 1 << 40, C: 1<<20 - 1}} {
		want[k] = text(wide[k.Kind]-i, i)
		mustPut(t, s, k, want[k], api.OK)
	}
	mustHave(t, opened(t, d, wide), wide, want)
	mustHave(t, opened(t, loaded(t, d.Image()), wide), wide, want)
}

func TestP402Put(t *testing.T) {
	s := opened(t, made(t, 40), wide)
	want := records{}
	for salt := range 3 {
		for _, k := range []api.Key{block(0), block(1), bucket(9), instance(9, 1)} {
			for _, n := range []int{0, 1, 447, 448, 449, 895, 896, 897, 900, 1343, 1344, 1345} {
				if n > wide[k.Kind] {
					mustPut(t, s, k, text(n, salt), api.ErrLong)
				} else {
					mustPut(t, s, k, text(n, salt), api.OK)
					want[k] = text(n, salt)
				}
				mustHave(t, s, wide, want)
			}
		}
	}
}

// A record of most bytes, for mosts at both ends and around a sector's bytes.
func TestP402MostBytes(t *testing.T) {
	for _, n := range []int{0, 1, 447, 448, 449, 896, 897, 44800, 44801, api.MaxBytes - 1, api.MaxBytes} {
		for _, k := range []api.Key{block(0), bucket(0), instance(0, 1)} {
			m := stable.Most{}
			m[k.Kind] = n
			d := made(t, stable.Width(k.Kind, m))
			s := opened(t, d, m)
			mustPut(t, s, k, text(n+1, 0), api.ErrLong)
			for salt := range 3 {
				mustPut(t, s, k, text(n, salt), api.OK)
				mustHave(t, s, m, records{k: text(n, salt)})
				mustHave(t, opened(t, d, m), m, records{k: text(n, salt)})
			}
		}
	}
}

func TestP402KeysAtTheirEnds(t *testing.T) {
	d := made(t, 64)
	s := opened(t, d, most)
	ends := []api.Key{
		{Kind: 1, A: 1, B: 1, C: 0}, {Kind: 1, A: 255, B: 1, C: 0}, {Kind: 1, A: 1, B: 1 << 40, C: 0}, {Kind: 1, A: 1, B: 1, C: 1<<20 - 1},
		{Kind: 2, A: 0}, {Kind: 2, A: 255},
		{Kind: 3, A: 0, B: 1}, {Kind: 3, A: 255, B: 1}, {Kind: 3, A: 0, B: 1 << 20}, {Kind: 3, A: 255, B: 1 << 20},
	}
	want := records{}
	for i, k := range ends {
		want[k] = text(i%2*most[k.Kind], i)
		mustPut(t, s, k, want[k], api.OK)
	}
	mustHave(t, s, most, want)
	mustHave(t, opened(t, d, most), most, want)
	for _, k := range ends {
		mustDrop(t, s, k, api.OK)
		mustNotGet(t, s, k)
	}
	mustHave(t, s, most, records{})
}

// wrong are keys that may not be, one past each end among them.
var wrong = []api.Key{
	{}, {Kind: 1}, {Kind: -1, A: 1, B: 1}, {Kind: 0, A: 1, B: 1}, {Kind: 4, A: 1, B: 1}, {Kind: 4}, {Kind: math.MaxInt}, {Kind: math.MinInt},
	{Kind: 1, A: 0, B: 1}, {Kind: 1, A: 256, B: 1}, {Kind: 1, A: -1, B: 1}, {Kind: 1, A: 1, B: 0}, {Kind: 1, A: 1, B: 1<<40 + 1}, {Kind: 1, A: 1, B: -1},
	{Kind: 1, A: 1, B: 1, C: -1}, {Kind: 1, A: 1, B: 1, C: 1 << 20}, {Kind: 1, A: math.MaxInt, B: math.MinInt, C: math.MaxInt},
	{Kind: 2, A: -1}, {Kind: 2, A: 256}, {Kind: 2, A: 1, B: 1}, {Kind: 2, A: 1, B: -1}, {Kind: 2, A: 1, C: 1}, {Kind: 2, A: 1, C: -1},
	{Kind: 3, A: -1, B: 1}, {Kind: 3, A: 256, B: 1}, {Kind: 3, A: 1, B: 0}, {Kind: 3, A: 1, B: -1}, {Kind: 3, A: 1, B: 1<<20 + 1}, {Kind: 3, A: 1, B: 1, C: 1}, {Kind: 3, A: 1, B: 1, C: -1},
}

func TestP402ErrKey(t *testing.T) {
	d := made(t, 12)
	s := opened(t, d, most)
	mustPut(t, s, block(0), "a", api.OK)
	for _, full := range []bool{false, true} {
		if full {
			s.Limit(0)
		}
		for _, k := range wrong {
			writes := d.Counts().Writes
			mustPut(t, s, k, "", api.ErrKey)
			mustPut(t, s, k, text(api.MaxBytes+1, 0), api.ErrKey)
			mustDrop(t, s, k, api.ErrKey)
			mustNotGet(t, s, k)
			if d.Counts().Writes != writes {
				t.Fatalf("a refused call of %v has written", k)
			}
		}
		mustHave(t, s, most, records{block(0): "a"})
	}
}

// The four errors of a Put, each with all later ones beside it.
func TestP402OrderOfErrors(t *testing.T) {
	d := made(t, 2)
	s := opened(t, d, most)
	mustPut(t, s, block(0), "a", api.OK)
	mustPut(t, s, block(1), "", api.ErrFull)
	mustPut(t, s, block(1), text(11, 0), api.ErrLong)
	mustPut(t, s, block(-1), text(11, 0), api.ErrKey)
	mustPut(t, s, bucket(0), text(1001, 0), api.ErrLong)
	mustPut(t, s, bucket(256), text(1001, 0), api.ErrKey)
	mustPut(t, s, instance(0, 1), "x", api.ErrLong)
	mustPut(t, s, block(0), text(11, 0), api.ErrLong)
	mustHave(t, s, most, records{block(0): "a"})
	mustFall(t, d)
	mustPut(t, s, block(-1), text(11, 0), api.ErrFallen)
	d.Start()
	mustBeFallen(t, s)
}

// Each of the errors that a disk which has fallen stands ahead of.
func TestP402ErrFallenFirst(t *testing.T) {
	for _, p := range []step{
		{key: api.Key{}}, {key: block(0), record: text(11, 0)}, {key: block(5)}, {key: block(0)},
		{key: api.Key{}, drop: true}, {key: block(5), drop: true}, {key: block(0), drop: true},
	} {
		d := made(t, 2)
		s := opened(t, d, most)
		mustPut(t, s, block(0), "a", api.OK)
		mustFall(t, d)
		mustHave(t, s, most, records{block(0): "a"})
		if err := p.on(s); err != api.ErrFallen {
			t.Errorf("%v over a disk that has fallen: %v", p, err)
		}
		d.Start()
		mustBeFallen(t, s)
		mustHave(t, opened(t, d, most), most, records{block(0): "a"})
	}
}

func TestP402RefusedWritesNothing(t *testing.T) {
	d := made(t, 8)
	s := opened(t, d, most)
	mustPut(t, s, block(0), "a", api.OK)
	mustPut(t, s, block(0), "b", api.OK)
	mustPut(t, s, bucket(0), text(1000, 1), api.OK)
	want := records{block(0): "b", bucket(0): text(1000, 1)}
	writes, image := d.Counts().Writes, d.Image()
	for range 2 {
		mustPut(t, s, api.Key{}, "a", api.ErrKey)
		mustPut(t, s, block(0), text(11, 0), api.ErrLong)
		mustPut(t, s, block(1), text(11, 0), api.ErrLong)
		mustPut(t, s, block(1), "", api.ErrFull)
		mustPut(t, s, bucket(1), "", api.ErrFull)
		mustPut(t, s, instance(0, 1), "", api.ErrFull)
		mustDrop(t, s, block(1), api.OK)
		mustDrop(t, s, bucket(1), api.OK)
		mustDrop(t, s, api.Key{}, api.ErrKey)
		s.Get(block(0))
		s.Fits(1, 2, 3)
		s.Limit(3)
		mustHave(t, s, most, want)
		// An armed disk would fall at any write, also one of the same bytes.
		d.Arm(0, 0)
	}
	if d.Counts().Writes != writes || !bytes.Equal(d.Image(), image) || d.Fallen() {
		t.Errorf("%d writes, want %d; fallen: %v", d.Counts().Writes, writes, d.Fallen())
	}
}

func TestP402ErrFull(t *testing.T) {
	// Widths 2, 4, 6: by how many sectors there are which kinds still have room.
	for sectors := 1; sectors <= 14; sectors++ {
		for kind, k := range map[int]api.Key{1: block(5), 2: bucket(5), 3: instance(5, 5)} {
			s := opened(t, made(t, sectors), wide)
			want := records{}
			if sectors >= 2 {
				mustPut(t, s, block(0), "x", api.OK)
				want[block(0)] = "x"
			}
			if sectors >= 2+2*kind {
				mustPut(t, s, k, text(wide[kind], 1), api.OK)
				want[k] = text(wide[kind], 1)
			} else {
				mustPut(t, s, k, "", api.ErrFull)
			}
			mustHave(t, s, wide, want)
		}
	}
}

func TestP403Get(t *testing.T) {
	s := opened(t, made(t, 12), most)
	for _, k := range append(slices.Clone(wrong), block(0), block(1), bucket(0), instance(0, 1)) {
		mustNotGet(t, s, k)
	}
	mustPut(t, s, block(0), "ten bytes.", api.OK)
	mustPut(t, s, instance(0, 1), "", api.OK)
	for range 2 {
		mustGet(t, s, block(0), "ten bytes.")
		mustGet(t, s, instance(0, 1), "")
		for _, k := range append(slices.Clone(wrong), block(1), bucket(0), instance(0, 2), instance(1, 1), api.Key{Kind: 1, A: 1, B: 2}, api.Key{Kind: 1, A: 2, B: 1}) {
			mustNotGet(t, s, k)
		}
	}
	mustPut(t, s, block(0), "", api.OK)
	mustGet(t, s, block(0), "")
}

func TestP404Drop(t *testing.T) {
	d := made(t, 14)
	s := opened(t, d, wide)
	want := records{block(0): "a", bucket(1): text(896, 1), instance(1, 2): text(1344, 2)}
	for k, record := range want {
		mustPut(t, s, k, record, api.OK)
	}
	for _, k := range sortedKeys(want) {
		mustDrop(t, s, k, api.OK)
		want = want.without(k)
		mustHave(t, s, wide, want)
		mustHave(t, opened(t, d, wide), wide, want)
		writes := d.Counts().Writes
		mustDrop(t, s, k, api.OK)
		if d.Counts().Writes != writes {
			t.Errorf("a second Drop of %v has written", k)
		}
		mustNotGet(t, s, k)
	}
	mustTake(t, s, 0)
}

// Whatever lay under a key ahead of its last record does not come back when that is dropped.
func TestP404ElderRecordsStayAway(t *testing.T) {
	for times := 1; times <= 5; times++ {
		for _, again := range []bool{false, true} {
			d := made(t, 12)
			s := opened(t, d, wide)
			for i := range times {
				mustPut(t, s, bucket(0), text(896-400*(i%2), i), api.OK)
				if again {
					s = opened(t, d, wide)
				}
			}
			mustDrop(t, s, bucket(0), api.OK)
			mustHave(t, opened(t, d, wide), wide, records{})
			mustPut(t, s, block(0), "x", api.OK)
			mustHave(t, opened(t, d, wide), wide, records{block(0): "x"})
		}
	}
}

func TestP405All(t *testing.T) {
	s := opened(t, made(t, 64), most)
	var c chance
	keys := []api.Key{
		{Kind: 1, A: 1, B: 1, C: 0}, {Kind: 1, A: 1, B: 1, C: 1}, {Kind: 1, A: 1, B: 2, C: 0}, {Kind: 1, A: 2, B: 1, C: 0}, {Kind: 1, A: 255, B: 1 << 40, C: 1<<20 - 1},
		{Kind: 2, A: 0}, {Kind: 2, A: 1}, {Kind: 2, A: 255},
		{Kind: 3, A: 0, B: 1}, {Kind: 3, A: 0, B: 256}, {Kind: 3, A: 1, B: 1}, {Kind: 3, A: 255, B: 1},
	}
	for turn := range 20 {
		want := records{}
		for len(want) < len(keys) {
			k := keys[c.below(len(keys))]
			if _, ok := want[k]; !ok {
				want[k] = text(c.below(most[k.Kind]+1), turn)
				mustPut(t, s, k, want[k], api.OK)
				if s.Len() < len(want) {
					t.Fatalf("Len %d, want at least %d", s.Len(), len(want))
				}
			}
		}
		var got []api.Key
		for k, b := range s.All() {
			got = append(got, k)
			if string(b) != want[k] {
				t.Errorf("another record under %v", k)
			}
		}
		if !slices.Equal(got, keys) {
			t.Fatalf("All: %v, want %v", got, keys)
		}
	}
}

func TestP405LeftEarlyAndAgain(t *testing.T) {
	s := opened(t, made(t, 12), most)
	for c := range 4 {
		mustPut(t, s, block(c), text(c, c), api.OK)
	}
	all := s.All()
	for stop := range 5 {
		count := 0
		for k := range all {
			if k != block(count) {
				t.Fatalf("%v is the %dth", k, count)
			}
			if count++; count == stop {
				break
			}
		}
		if count != stop && stop != 0 {
			t.Errorf("left at %d, at %d", stop, count)
		}
	}
	// Within itself.
	var seen []int
	for k, b := range all {
		for l, c := range all {
			if string(b) != text(k.C, k.C) || string(c) != text(l.C, l.C) {
				t.Fatalf("other records under %v, %v", k, l)
			}
			seen = append(seen, 10*k.C+l.C)
		}
	}
	if len(seen) != 16 || !slices.IsSorted(seen) {
		t.Errorf("within itself: %v", seen)
	}
}

func TestP5AllStaysAsItWas(t *testing.T) {
	d := made(t, 20)
	s := opened(t, d, most)
	want := records{block(0): "a", block(1): "b", bucket(0): text(1000, 1), instance(0, 1): ""}
	for k, record := range want {
		mustPut(t, s, k, record, api.OK)
	}
	all, none := s.All(), opened(t, made(t, 2), most).All()
	check := func() {
		t.Helper()
		got := records{}
		for k, b := range all {
			got[k] = string(b)
		}
		if len(got) != len(want) {
			t.Fatalf("%d records, want %d", len(got), len(want))
		}
		for k := range want {
			if got[k] != want[k] {
				t.Fatalf("another record under %v", k)
			}
		}
	}
	// Records are put and dropped while it is gone over.
	turn := 0
	for k := range all {
		turn++
		mustDrop(t, s, k, api.OK)
		mustPut(t, s, block(10), text(turn, turn), api.OK)
		mustPut(t, s, block(1), text(turn, 7), api.OK)
		check()
	}
	if turn != 4 {
		t.Errorf("%d turns, want 4", turn)
	}
	d.Arm(0, 9)
	mustPut(t, s, block(0), "z", api.ErrFallen)
	check()
	for range none {
		t.Error("a Store of nothing tells a record")
	}
}

func TestP406LimitAndTaken(t *testing.T) {
	d := made(t, 12)
	s := opened(t, d, most)
	mustPut(t, s, block(0), "a", api.OK)
	mustPut(t, s, bucket(0), "b", api.OK)
	want := records{block(0): "a", bucket(0): "b"}
	for _, c := range []struct {
		limit int
		fits  bool
	}{{-1, false}, {math.MinInt, false}, {0, false}, {7, false}, {8, false}, {9, false}, {10, true}, {11, true}, {0, false}, {12, true}, {13, true}, {9, false}, {math.MaxInt, true}} {
		s.Limit(c.limit)
		mustTake(t, s, 8)
		if got := s.Fits(api.KBlock); got != c.fits {
			t.Errorf("Limit(%d): Fits of a block: %v", c.limit, got)
		}
		if !s.Fits() {
			t.Errorf("Limit(%d): Fits of none: false", c.limit)
		}
		if s.Fits(api.KBucket) {
			t.Errorf("Limit(%d): a bucket fits", c.limit)
		}
		// What lies there stays, and may be replaced, also above the room.
		mustPut(t, s, block(0), text(3, c.limit&7), api.OK)
		want[block(0)] = text(3, c.limit&7)
		if c.fits {
			mustPut(t, s, block(1), "c", api.OK)
			mustTake(t, s, 10)
			mustDrop(t, s, block(1), api.OK)
		} else {
			mustPut(t, s, block(1), "c", api.ErrFull)
		}
		mustHave(t, s, most, want)
		mustHave(t, opened(t, d, most), most, want)
	}
}

// Of a limit at whichever number the room is the lesser one of it and the disk's sectors.
func TestP406Room(t *testing.T) {
	for sectors := 1; sectors <= 9; sectors++ {
		for limit := -2; limit <= 11; limit++ {
			s := opened(t, made(t, sectors), stable.Most{})
			s.Limit(3)
			s.Limit(limit)
			room := min(sectors, max(limit, 0))
			for c := range room / 2 {
				mustPut(t, s, block(c), "", api.OK)
			}
			mustPut(t, s, block(100), "", api.ErrFull)
			mustTake(t, s, room/2*2)
		}
	}
}

func TestP406NoLimitWhenOpened(t *testing.T) {
	d := made(t, 4)
	s := opened(t, d, most)
	mustPut(t, s, block(0), "a", api.OK)
	s.Limit(2)
	mustPut(t, s, block(1), "b", api.ErrFull)
	other := opened(t, d, most)
	if !other.Fits(api.KBlock) || s.Fits(api.KBlock) {
		t.Errorf("a Limit of one Store is another one's")
	}
	mustPut(t, other, block(1), "b", api.OK)
}

func TestP406DropGivesRoom(t *testing.T) {
	s := opened(t, made(t, 12), most)
	s.Limit(8)
	mustPut(t, s, bucket(0), text(1000, 0), api.OK)
	mustPut(t, s, bucket(1), "", api.ErrFull)
	mustPut(t, s, block(0), "", api.OK)
	s.Limit(6)
	mustDrop(t, s, block(0), api.OK)
	mustPut(t, s, block(0), "", api.ErrFull)
	mustDrop(t, s, bucket(0), api.OK)
	for c := range 3 {
		mustPut(t, s, block(c), "", api.OK)
	}
	mustPut(t, s, block(3), "", api.ErrFull)
}

func TestP406Fits(t *testing.T) {
	s := opened(t, made(t, 12), wide)
	mustPut(t, s, block(0), "a", api.OK)
	for _, c := range []struct {
		kinds []int
		want  bool
	}{
		{nil, true}, {[]int{}, true},
		{[]int{1}, true}, {[]int{2}, true}, {[]int{3}, true},
		{[]int{1, 1, 1, 1, 1}, true}, {[]int{1, 1, 1, 1, 1, 1}, false},
		{[]int{2, 3}, true}, {[]int{3, 2}, true}, {[]int{2, 3, 1}, false}, {[]int{3, 3}, false}, {[]int{2, 2, 1}, true}, {[]int{2, 2, 2}, false},
		{[]int{0}, false}, {[]int{4}, false}, {[]int{-1}, false}, {[]int{math.MaxInt}, false}, {[]int{math.MinInt}, false},
		{[]int{1, 0}, false}, {[]int{0, 1}, false}, {[]int{1, 4, 1}, false}, {[]int{3, 3, 3, 9}, false},
	} {
		if got := s.Fits(c.kinds...); got != c.want {
			t.Errorf("Fits(%v): %v", c.kinds, got)
		}
	}
	s.Limit(1)
	if !s.Fits() || s.Fits(1) || s.Fits(0) {
		t.Errorf("above the room: Fits %v %v %v", s.Fits(), s.Fits(1), s.Fits(0))
	}
}

// A new key of each of these kinds is put just where Fits says that it has room.
func TestP406FitsIsPut(t *testing.T) {
	keys := []api.Key{{}, block(9), bucket(9), instance(9, 9)}
	for sectors := 1; sectors <= 16; sectors++ {
		s := opened(t, made(t, sectors), wide)
		for i, kind := range []int{1, 2, 3} {
			fits := s.Fits(kind)
			if got := s.Put(keys[kind], nil) == api.OK; got != fits {
				t.Errorf("%d sectors, the %dth: fits %v, put %v", sectors, i, fits, got)
			}
		}
	}
}

func TestP407Width(t *testing.T) {
	for _, c := range []struct{ most, want int }{
		{0, 2}, {1, 2}, {447, 2}, {448, 2}, {449, 4}, {895, 4}, {896, 4}, {897, 6}, {1000, 6}, {1344, 6}, {1345, 8},
		{448 * 100, 200}, {448*100 + 1, 202}, {448*100 - 1, 200}, {api.MaxBytes - 1, 586}, {api.MaxBytes, 586},
		{-1, 0}, {api.MaxBytes + 1, 0}, {math.MinInt, 0}, {math.MaxInt, 0},
	} {
		for kind := 1; kind <= 3; kind++ {
			m := stable.Most{5, 5, 5, 5}
			m[kind] = c.most
			if got := stable.Width(kind, m); got != c.want {
				t.Errorf("Width(%d, %v): %d, want %d", kind, m, got, c.want)
			}
			other := stable.Most{c.most, c.most, c.most, c.most}
			other[kind] = 449
			if got := stable.Width(kind, other); got != 4 {
				t.Errorf("Width(%d, %v): %d, want 4", kind, other, got)
			}
		}
	}
	for _, kind := range []int{math.MinInt, -1, 0, 4, 5, math.MaxInt} {
		if got := stable.Width(kind, most); got != 0 {
			t.Errorf("Width(%d): %d", kind, got)
		}
	}
}

// What a key takes is its width, whatever the record's length.
func TestP407TakenIsWidth(t *testing.T) {
	for _, n := range []int{0, 1, 448, 449, 896, 897, 5000} {
		m := stable.Most{0, n, n, n}
		for _, k := range []api.Key{block(0), bucket(0), instance(0, 1)} {
			s := opened(t, made(t, 100), m)
			for _, length := range []int{0, n / 2, n} {
				mustPut(t, s, k, text(length, 1), api.OK)
				mustTake(t, s, 2*max(1, (n+447)/448))
			}
		}
	}
}

// mustFall lets a disk fall at a write that changes nothing: the disk's bytes are those that Stores have written.
func mustFall(t *testing.T, d interface {
	Arm(writes, torn int)
	Write(n int, b []byte) api.Errno
}) {
	t.Helper()
	d.Arm(0, 0)
	if err := d.Write(0, make([]byte, api.Sector)); err != api.ErrFallen {
		t.Fatalf("the disk has not fallen: %v", err)
	}
}
