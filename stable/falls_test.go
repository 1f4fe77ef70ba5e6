package stable_test

import (
	"bytes"
	"encoding/binary"
	"hash/crc32"
	"testing"

	"cairn/api"
	"cairn/stable"
)

// state is a disk's bytes, and the records that a Store has there.
type state struct {
	image []byte
	has   records
}

// built is the state behind these steps on a new disk; all of them must be OK.
func built(t *testing.T, sectors int, m stable.Most, steps []step) state {
	t.Helper()
	d := made(t, sectors)
	s := opened(t, d, m)
	has := records{}
	for _, p := range steps {
		if err := p.on(s); err != api.OK {
			t.Fatalf("%v: %v", p, err)
		}
		has = p.behind(has)
	}
	mustHave(t, s, m, has)
	return state{d.Image(), has}
}

// falls plays a step on a disk that falls at the write behind so many, torn there, and tells the state then, and whether the disk fell. The records must be those ahead of the step or those behind it.
func (a state) falls(t *testing.T, m stable.Most, p step, writes, torn int) (state, bool) {
	t.Helper()
	d := loaded(t, a.image)
	s := opened(t, d, m)
	d.Arm(writes, torn)
	err := p.on(s)
	switch {
	case err == api.OK && !d.Fallen():
		mustHave(t, s, m, p.behind(a.has))
		return state{d.Image(), p.behind(a.has)}, false
	case err != api.ErrFallen || !d.Fallen():
		t.Fatalf("%v, %d writes, torn at %d: %v, and the disk's Fallen is %v", p, writes, torn, err, d.Fallen())
	}
	mustBeFallen(t, s)
	d.Start()
	mustBeFallen(t, s)
	now := opened(t, d, m)
	for _, has := range []records{p.behind(a.has), a.has} {
		if fault(now, m, has) == "" {
			return state{d.Image(), has}, true
		}
	}
	t.Fatalf("%v, %d writes, torn at %d: neither the old record nor the new one: %s; %s", p, writes, torn, fault(now, m, a.has), fault(now, m, p.behind(a.has)))
	return state{}, false
}

// goesOn: whatever fell, all keys that there is room for can be put, replaced and dropped.
func (a state) goesOn(t *testing.T, m stable.Most, keys []api.Key) {
	t.Helper()
	d := loaded(t, a.image)
	s := opened(t, d, m)
	has := a.has
	for round := range 2 {
		for _, k := range keys {
			p := step{key: k, record: text(m[k.Kind], 90+round)}
			want := p.wanted(has, m, d.Sectors())
			if err := p.on(s); err != want {
				t.Fatalf("behind a fall: %v: %v, want %v", p, err, want)
			}
			if want == api.OK {
				has = p.behind(has)
			}
		}
	}
	mustHave(t, s, m, has)
	for _, k := range keys {
		mustDrop(t, s, k, api.OK)
		has = has.without(k)
		mustHave(t, opened(t, d, m), m, has)
	}
}

func puts(k api.Key, records ...string) []step {
	var steps []step
	for _, r := range records {
		steps = append(steps, step{key: k, record: r})
	}
	return steps
}

func drops(k api.Key) step { return step{key: k, drop: true} }

// zeroSum are 5 bytes that may be laid over any others (by xor) without changing that sum of a row in which they stand.
func zeroSum(table *crc32.Table) []byte {
	return binary.LittleEndian.AppendUint32([]byte{1}, table[1])
}

// laidOver is a record with a row laid over it by xor, again and again.
func laidOver(record string, row []byte) string {
	b := []byte(record)
	for i := range len(b) / len(row) * len(row) {
		b[i] ^= row[i%len(row)]
	}
	return string(b)
}

// swapped has neighbouring bytes in each other's place.
func swapped(record string) string {
	b := []byte(record)
	for i := 1; i < len(b); i += 2 {
		b[i-1], b[i] = b[i], b[i-1]
	}
	return string(b)
}

// twins are records with the same sum as the one that is handed in, of which mixtures torn at many places have it too.
func twins(t *testing.T, record string) []string {
	t.Helper()
	var list []string
	for _, table := range []*crc32.Table{crc32.MakeTable(crc32.IEEE), crc32.MakeTable(crc32.Castagnoli), crc32.MakeTable(crc32.Koopman)} {
		twin := laidOver(record, zeroSum(table))
		mixed := twin[:len(record)/2/5*5] + record[len(record)/2/5*5:]
		for _, b := range []string{twin, mixed} {
			if b == record || crc32.Checksum([]byte(b), table) != crc32.Checksum([]byte(record), table) {
				t.Fatal("these are no twins")
			}
		}
		list = append(list, twin)
	}
	return append(list, swapped(record))
}

// Falls at every write of a Put and of a Drop, torn at every byte.
func TestP409EveryWriteEveryByte(t *testing.T) {
	one, two, three := block(0), bucket(0), instance(0, 1)
	others := append(puts(block(1), "left alone"), puts(instance(0, 2), text(1344, 50))...)
	for _, c := range []struct {
		what   string
		before []step
		step   step
	}{
		{"a first Put", nil, puts(one, text(448, 1))[0]},
		{"a first Put of no bytes", nil, puts(one, "")[0]},
		{"a first Put of two sectors", nil, puts(two, text(896, 1))[0]},
		{"a second Put", puts(one, text(448, 1)), puts(one, text(448, 2))[0]},
		{"a second Put of the same", puts(one, text(448, 1)), puts(one, text(448, 1))[0]},
		{"a third Put", puts(one, text(448, 1), text(400, 2)), puts(one, text(448, 3))[0]},
		{"a fourth Put", puts(one, text(448, 1), "", text(448, 2)), puts(one, text(447, 3))[0]},
		{"longer by two sectors", puts(three, text(448, 1), text(1344, 2), "x"), puts(three, text(1344, 3))[0]},
		{"shorter by two sectors", puts(three, text(1344, 2), text(1344, 3)), puts(three, "")[0]},
		{"three sectors", puts(three, text(1344, 2), text(1344, 3), text(1344, 4)), puts(three, text(1344, 5))[0]},
		{"a Drop", puts(one, text(448, 1)), drops(one)},
		{"a Drop behind a second Put", puts(one, text(448, 1), text(448, 2)), drops(one)},
		{"a Drop behind a third Put", puts(one, text(448, 1), text(448, 2), "a"), drops(one)},
		{"a Drop of three sectors", puts(three, text(1344, 1), text(1344, 2)), drops(three)},
		{"a Drop behind another key's second Put", append(puts(one, "a", "b"), puts(two, text(896, 1), "c")...), drops(one)},
		{"a Put behind a Drop", append(puts(one, "a", "b"), drops(one)), puts(one, "c")[0]},
		{"a long Put behind a Drop", append(puts(three, text(1344, 1), text(1344, 2)), drops(three)), puts(three, text(1344, 3))[0]},
	} {
		before := append(append([]step{}, others...), c.before...)
		a := built(t, 20, wide, before)
		fell := 0
		for writes := 0; ; writes++ {
			any := false
			for torn := range api.Sector + 1 {
				b, down := a.falls(t, wide, c.step, writes, torn)
				any = any || down
				if torn%64 == 0 || torn == 1 || torn == 511 {
					b.goesOn(t, wide, []api.Key{one, two, three, block(1)})
				}
			}
			if !any {
				break
			}
			fell++
		}
		if fell == 0 {
			t.Errorf("%s: no write", c.what)
		}
	}
}

// A record is laid over the one before the last: of the two all mixtures have one sum.
func TestP409SameSum(t *testing.T) {
	for _, length := range []int{448, 1344, 300} {
		for i, first := range []string{text(length, 1), string(make([]byte, length))} {
			for _, twin := range twins(t, first) {
				for _, between := range []string{text(length, 2), first, twin, ""} {
					if i == 1 && twin == first {
						continue
					}
					k := instance(3, 3)
					a := built(t, 6, wide, puts(k, first, between))
					p := puts(k, twin)[0]
					for writes := range 3 {
						for torn := 0; torn <= api.Sector; torn += 1 + writes {
							a.falls(t, wide, p, writes, torn)
						}
					}
				}
			}
		}
	}
}

// Falls one behind the other: every row of three steps, each of which may fall at any of its writes.
func TestP409AgainAndAgain(t *testing.T) {
	m := stable.Most{0, 448, 896, 448}
	one, two := block(0), bucket(0)
	steps := []step{
		{key: one, record: text(448, 1)}, {key: one, record: text(448, 2)}, {key: one, drop: true},
		{key: two, record: text(896, 3)}, {key: two, drop: true},
	}
	deep := 3
	if testing.Short() {
		deep = 2
	}
	var from func(a state, left int)
	from = func(a state, left int) {
		if left == 0 {
			return
		}
		for _, p := range steps {
			for writes := 0; ; writes++ {
				any := false
				for _, torn := range []int{0, 1, 300, 512} {
					b, down := a.falls(t, m, p, writes, torn)
					any = any || down
					from(b, left-1)
					if !down {
						break
					}
				}
				if !any {
					break
				}
			}
		}
	}
	from(built(t, 6, m, nil), deep)
	from(built(t, 6, m, []step{steps[0], steps[1], steps[3], steps[3]}), deep)
}

// One key's sector is torn over and over, at all pairs of places: never does it look whole.
func TestP409TornOverAndOver(t *testing.T) {
	k := block(0)
	start := built(t, 2, most, puts(k, "0123456789", "abcdefghij"))
	places := []int{0, 1, 2, 3, 8, 20, 60, 66, 67, 100, 510, 511, 512}
	for _, first := range places {
		for _, second := range places {
			a := start
			for turn := range 12 {
				torn := first
				if turn%2 == 1 {
					torn = second
				}
				a, _ = a.falls(t, most, step{key: k, record: text(10, turn)}, 0, torn)
			}
			a, _ = a.falls(t, most, drops(k), 0, first)
			a, _ = a.falls(t, most, drops(k), 1, second)
			a.falls(t, most, step{key: k, record: "again"}, 0, first)
		}
	}
}

// play makes a long row of steps by a fixed rule, some of which fall, and holds the Store against the records that must be there.
func play(t *testing.T, c *chance, sectors, steps int, m stable.Most, mayFall bool) {
	t.Helper()
	d := made(t, sectors)
	s := opened(t, d, m)
	elder := s
	has, room := records{}, sectors
	for i := range steps {
		if c.below(12) == 0 {
			limit := c.below(sectors+3) - 1
			s.Limit(limit)
			room = min(max(limit, 0), sectors)
		}
		if mayFall && c.below(3) == 0 {
			d.Arm(c.below(6), []int{0, 1, 511, 512, c.below(513)}[c.below(5)])
		}
		p := c.someStep(m)
		want, writes := p.wanted(has, m, room), d.Counts().Writes
		err := p.on(s)
		switch {
		case err == api.ErrFallen && want == api.OK && d.Fallen():
			mustBeFallen(t, s)
			d.Start()
			s, room = opened(t, d, m), sectors
			if fault(s, m, p.behind(has)) == "" {
				has = p.behind(has)
			}
		case err != want:
			t.Fatalf("the %dth step: %v: %v, want %v", i, p, err, want)
		case err != api.OK && d.Counts().Writes != writes:
			t.Fatalf("the %dth step: %v was refused and has written", i, p)
		case err == api.OK:
			has = p.behind(has)
		}
		if f := fault(s, m, has); f != "" {
			t.Fatalf("behind the %dth step, %v: %s", i, p, f)
		}
		if i%3 == 0 {
			mustHave(t, opened(t, d, m), m, has)
			mustHave(t, opened(t, loaded(t, d.Image()), m), m, has)
		}
		if !mayFall {
			mustHave(t, elder, m, has)
		}
	}
}

func TestP408Whole(t *testing.T) {
	var c chance
	for _, sectors := range []int{1, 2, 3, 6, 9, 16, 28, 40} {
		for range 6 {
			play(t, &c, sectors, 120, wide, false)
			play(t, &c, sectors, 60, most, false)
		}
	}
}

func TestP409LongRows(t *testing.T) {
	c := chance(7)
	for _, sectors := range []int{2, 3, 6, 8, 12, 16, 28, 40} {
		for range 12 {
			play(t, &c, sectors, 150, wide, true)
			play(t, &c, sectors, 80, most, true)
		}
	}
}

// full are steps that take a disk of 24 sectors to its last one, with as many bytes as may be.
func full(salt int) []step {
	var steps []step
	for i, k := range []api.Key{block(0), instance(0, 1), bucket(0), block(1), instance(0, 2), bucket(1)} {
		steps = append(steps, step{key: k, record: text(wide[k.Kind], salt+i)})
	}
	return steps
}

func TestP410FullToTheLastSector(t *testing.T) {
	a := built(t, 24, wide, full(1))
	d := loaded(t, a.image)
	s := opened(t, d, wide)
	mustTake(t, s, 24)
	for salt := range 5 {
		for _, p := range full(salt) {
			if err := p.on(s); err != api.OK {
				t.Fatalf("%v where no sector is left: %v", p, err)
			}
			a.has = p.behind(a.has)
			mustHave(t, s, wide, a.has)
			mustPut(t, s, block(9), "", api.ErrFull)
		}
	}
	mustHave(t, opened(t, d, wide), wide, a.has)
}

// A disk that is full, and each of whose records is replaced with falls at all writes, one behind the other, and dropped then.
func TestP410FullAndFalls(t *testing.T) {
	for _, torn := range []int{0, 1, 77, 511, 512} {
		for turn := range 4 {
			a := built(t, 24, wide, full(1))
			for i, p := range full(20) {
				for writes := 0; ; writes++ {
					var down bool
					if a, down = a.falls(t, wide, p, (writes+turn)%3, torn); !down {
						break
					}
					if writes > 3 {
						a, _ = a.falls(t, wide, p, 100, 0)
						break
					}
				}
				a, _ = a.falls(t, wide, full(40)[(i+turn)%6], turn, torn)
			}
			a.goesOn(t, wide, []api.Key{block(0), block(1), block(2), bucket(0), bucket(1), bucket(2), instance(0, 1), instance(0, 2), instance(0, 3)})
		}
	}
}

// Narrow keys make room for a wide one wherever they lie, and the other way round.
func TestP410NoHolesThatAreTooSmall(t *testing.T) {
	for pattern := range 1 << 6 {
		d := made(t, 12)
		s := opened(t, d, wide)
		has := records{}
		for c := range 6 {
			mustPut(t, s, block(c), text(448, c), api.OK)
			has[block(c)] = text(448, c)
		}
		gone := 0
		for c := range 6 {
			if pattern>>c&1 == 1 {
				mustDrop(t, s, block(c), api.OK)
				has = has.without(block(c))
				gone++
			}
		}
		if pattern%3 == 0 {
			s = opened(t, d, wide)
		}
		for i := range gone / 3 {
			mustPut(t, s, instance(0, i+1), text(1344, i), api.OK)
			mustPut(t, s, instance(0, i+1), text(1344, i+5), api.OK)
			has[instance(0, i+1)] = text(1344, i+5)
		}
		mustHave(t, opened(t, d, wide), wide, has)
		for i := range gone / 3 {
			mustDrop(t, s, instance(0, i+1), api.OK)
		}
		for c := range 6 {
			mustPut(t, s, block(c), text(448, c+7), api.OK)
		}
		mustPut(t, s, block(6), "", api.ErrFull)
		mustTake(t, s, 12)
	}
}

// A disk as great as may be, taken to its last sector.
func TestP410TheGreatestDisk(t *testing.T) {
	m := stable.Most{0, 0, api.MaxBytes, api.MaxBytes}
	d := made(t, api.MaxSectors)
	s := opened(t, d, m)
	has := records{}
	for b := range api.MaxSectors / 586 {
		has[bucket(b)] = text(api.MaxBytes-b, b)
	}
	for c := range api.MaxSectors % 586 / 2 {
		has[block(c)] = ""
	}
	for _, k := range sortedKeys(has) {
		mustPut(t, s, k, has[k], api.OK)
	}
	mustTake(t, s, api.MaxSectors)
	mustPut(t, s, block(-1+1<<20), "", api.ErrFull)
	mustPut(t, s, bucket(0), text(api.MaxBytes, 77), api.OK)
	has[bucket(0)] = text(api.MaxBytes, 77)
	mustHave(t, s, m, has)
	mustHave(t, opened(t, d, m), m, has)
}

// A Store that was opened ahead of another one's writes has what these have laid down, whatever it is asked first, and may write then.
func TestP408OpenedEarlier(t *testing.T) {
	for what, ask := range map[string]func(s *stable.Store) bool{
		"Get":   func(s *stable.Store) bool { b, ok := s.Get(block(0)); return ok && string(b) == "a" },
		"All":   func(s *stable.Store) bool { return told(s)[block(0)] == "a" },
		"Len":   func(s *stable.Store) bool { return s.Len() == 1 },
		"Taken": func(s *stable.Store) bool { return s.Taken() == 2 },
		"Fits":  func(s *stable.Store) bool { return !s.Fits(1, 2, 3) },
		"full":  func(s *stable.Store) bool { s.Limit(2); return s.Put(block(1), nil) == api.ErrFull },
		"Put":   func(s *stable.Store) bool { return s.Put(block(1), nil) == api.OK && told(s)[block(0)] == "a" },
		"Drop": func(s *stable.Store) bool {
			return s.Drop(block(0)) == api.OK && s.Put(block(0), []byte("a")) == api.OK
		},
	} {
		d := made(t, 12)
		first, second := opened(t, d, wide), opened(t, d, wide)
		mustPut(t, first, block(0), "a", api.OK)
		if !ask(second) {
			t.Errorf("%s: of what was there when it was opened", what)
		}
		mustGet(t, opened(t, d, wide), block(0), "a")
	}
}

// Each of two Stores writes as long as the later one has not.
func TestP408OneBehindTheOther(t *testing.T) {
	d := made(t, 12)
	first, second := opened(t, d, wide), opened(t, d, wide)
	mustPut(t, first, block(0), "a", api.OK)
	mustPut(t, first, bucket(0), text(896, 1), api.OK)
	mustHave(t, second, wide, records{block(0): "a", bucket(0): text(896, 1)})
	mustPut(t, first, bucket(0), text(896, 2), api.OK)
	mustDrop(t, first, block(0), api.OK)
	mustPut(t, first, instance(0, 1), "c", api.OK)
	mustDrop(t, second, instance(0, 1), api.OK)
	mustHave(t, opened(t, d, wide), wide, records{bucket(0): text(896, 2)})
	mustPut(t, second, block(1), "b", api.OK)
	mustPut(t, second, bucket(1), text(800, 3), api.OK)
	mustPut(t, second, bucket(0), text(500, 4), api.OK)
	has := records{block(1): "b", bucket(0): text(500, 4), bucket(1): text(800, 3)}
	mustHave(t, second, wide, has)
	mustHave(t, opened(t, d, wide), wide, has)
}

// A Store that did not answer ErrFallen has not fallen, though the disk fell under another: it has what lies there.
func TestP408TheOtherOneFell(t *testing.T) {
	for _, torn := range []int{0, 1, 400, 512} {
		d := made(t, 12)
		first, second := opened(t, d, wide), opened(t, d, wide)
		mustPut(t, first, block(0), "a", api.OK)
		d.Arm(0, torn)
		mustPut(t, first, block(0), "b", api.ErrFallen)
		mustBeFallen(t, first)
		want := told(opened(t, loaded(t, d.Image()), wide))
		mustHave(t, second, wide, want)
		d.Start()
		mustHave(t, second, wide, want)
		mustPut(t, second, block(0), "c", api.OK)
		mustHave(t, opened(t, d, wide), wide, records{block(0): "c"})
		mustBeFallen(t, first)
	}
}

// Open writes nothing, whatever lies there, and what such a Store is asked ends.
func TestP401WhateverLiesThere(t *testing.T) {
	var images [][]byte
	for _, c := range []byte{0, 1, 2, 3, 255} {
		images = append(images, bytes.Repeat([]byte{c}, 4*api.Sector))
	}
	images = append(images, []byte(text(5*api.Sector, 3)), bytes.Repeat([]byte{1, 1, 1, 2}, 512))
	whole := built(t, 6, wide, puts(instance(0, 1), text(1344, 1), text(1344, 2))).image
	small := built(t, 6, wide, append(puts(block(0), text(448, 1), "b"), puts(block(1), "c")...)).image
	for _, image := range [][]byte{whole, small} {
		for at := 0; at < len(image); at++ {
			if at%api.Sector > 70 && at%api.Sector < 505 && at%50 != 0 {
				continue
			}
			for _, c := range []byte{0, 1, 127, 128, 255} {
				other := bytes.Clone(image)
				other[at] = c
				images = append(images, other)
			}
		}
		// One sector in the place of another: the same piece twice.
		for from := range 6 {
			for to := range 6 {
				other := bytes.Clone(image)
				copy(other[to*api.Sector:], image[from*api.Sector:(from+1)*api.Sector])
				images = append(images, other)
			}
		}
	}
	for _, image := range images {
		for _, m := range []stable.Most{wide, most, {}, {0, api.MaxBytes, api.MaxBytes, api.MaxBytes}} {
			useAnyhow(t, image, m)
		}
	}
}

func useAnyhow(t *testing.T, image []byte, m stable.Most) {
	t.Helper()
	d := loaded(t, image)
	s := opened(t, d, m)
	for k, b := range s.All() {
		if got, ok := s.Get(k); !ok || !bytes.Equal(got, b) {
			t.Fatalf("All and Get tell unlike records under %v", k)
		}
	}
	s.Fits(1, 2, 3)
	for round := range 2 {
		for _, k := range []api.Key{instance(0, 1), block(0), block(1), bucket(0)} {
			s.Put(k, []byte(text(min(m[k.Kind], 1400), round)))
			s.Put(k, nil)
			s.Drop(k)
			s.Put(k, []byte(text(min(m[k.Kind]/2, 700), round)))
		}
		if len(told(s)) != s.Len() {
			t.Fatal("All and Len tell unlike numbers of records")
		}
		s = opened(t, d, m)
	}
}

// A disk that was written with another Most, and random bytes around the marks.
func TestP401AnotherMost(t *testing.T) {
	c := chance(3)
	for range 300 {
		image := make([]byte, 8*api.Sector)
		for n := range 8 {
			sector := image[n*api.Sector : (n+1)*api.Sector]
			sector[0], sector[511] = 1, 1
			for i := range 7 {
				sector[8+8*i] = byte(c.below(4))
				if c.below(20) == 0 {
					sector[1+8*i] = byte(c.below(256))
				}
			}
		}
		useAnyhow(t, image, wide)
		useAnyhow(t, image, stable.Most{})
	}
}
