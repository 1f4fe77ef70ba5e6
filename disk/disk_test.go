package disk_test

import (
	"bytes"
	"math"
	"testing"

	"cairn/api"
	"cairn/disk"
)

func TestP301New(t *testing.T) {
	for _, n := range []int{1, 2, 3, 100, api.MaxSectors - 1, api.MaxSectors} {
		d := made(t, n)
		if d.Sectors() != n {
			t.Errorf("New(%d) has %d sectors", n, d.Sectors())
		}
		mustStand(t, d, true)
		mustCount(t, d, 0, 0)
		mustHold(t, d, make([]byte, n*512))
		mustRead(t, d, 0, make([]byte, 512))
		mustRead(t, d, n-1, make([]byte, 512))
		mustNotRead(t, d, n, api.ErrRange)
	}
}

func TestP301NoDisk(t *testing.T) {
	for _, n := range []int{math.MinInt, -65536, -1, 0, 65537, 131072, 1 << 32, math.MaxInt} {
		if d, err := disk.New(n); d != nil || err != api.ErrSectors {
			t.Errorf("New(%d): %v, %v", n, d, err)
		}
	}
}

func TestP301NewIsNotArmed(t *testing.T) {
	for _, d := range []*disk.Disk{made(t, 3), loaded(t, striped(3))} {
		for i := range 100 {
			mustWrite(t, d, i%3, full(byte(i)), api.OK)
		}
		mustStand(t, d, true)
	}
}

func TestP302Load(t *testing.T) {
	for _, n := range []int{1, 2, 3, 100, api.MaxSectors} {
		image := striped(n)
		d := loaded(t, image)
		if d.Sectors() != n {
			t.Errorf("%d sectors, want %d", d.Sectors(), n)
		}
		mustStand(t, d, true)
		mustCount(t, d, 0, 0)
		mustHold(t, d, image)
		for _, i := range []int{0, n / 2, n - 1} {
			mustRead(t, d, i, part(image, i))
		}
		mustNotRead(t, d, n, api.ErrRange)
	}
}

// Zeros behind, ahead of and between other sectors lie where they lay.
func TestP302LoadWithZeros(t *testing.T) {
	for zeros := range 16 {
		image := striped(4)
		for n := range 4 {
			if zeros>>n&1 == 1 {
				clear(part(image, n))
			}
		}
		d := loaded(t, image)
		mustHold(t, d, image)
		for n := range 4 {
			mustRead(t, d, n, part(image, n))
		}
	}
}

func TestP302NoImage(t *testing.T) {
	for _, n := range []int{0, 1, 256, 511, 513, 1023, 1025, 65536*512 - 1, 65536*512 + 1, 65537 * 512} {
		if d, err := disk.Load(make([]byte, n)); d != nil || err != api.ErrSectors {
			t.Errorf("Load of %d bytes: %v", n, err)
		}
	}
	if d, err := disk.Load(nil); d != nil || err != api.ErrSectors {
		t.Errorf("Load(nil): %v", err)
	}
}

func TestP303SectorsAlways(t *testing.T) {
	d := loaded(t, striped(5))
	for i, change := range []func(){
		func() { mustWrite(t, d, 4, full(1), api.OK) },
		func() { mustWrite(t, d, 4, full(0), api.OK) },
		func() { d.Arm(0, 7) },
		func() { mustWrite(t, d, 2, full(1), api.ErrFallen) },
		func() { d.Arm(0, 7) },
		func() { d.Start() },
	} {
		change()
		if d.Sectors() != 5 {
			t.Errorf("behind change %d: %d sectors", i, d.Sectors())
		}
	}
}

func TestP304Read(t *testing.T) {
	image := striped(3)
	d := loaded(t, image)
	for n := range 3 {
		mustRead(t, d, n, part(image, n))
	}
	d.Arm(0, 0)
	for range 3 {
		mustRead(t, d, 1, part(image, 1))
	}
	for _, n := range []int{math.MinInt, -512, -1, 3, 4, 1536, math.MaxInt} {
		mustNotRead(t, d, n, api.ErrRange)
	}
}

func TestP304FallenAheadOfRange(t *testing.T) {
	d := fallen(t, striped(2))
	for _, n := range []int{math.MinInt, -1, 0, 1, 2, math.MaxInt} {
		mustNotRead(t, d, n, api.ErrFallen)
	}
}

func TestP305Write(t *testing.T) {
	image := striped(4)
	d := loaded(t, image)
	for i, n := range []int{3, 0, 2, 1, 1, 3} {
		b := full(byte(40 + i))
		b[0], b[511] = byte(i), byte(2*i)
		mustWrite(t, d, n, b, api.OK)
		copy(part(image, n), b)
		mustRead(t, d, n, b)
		mustHold(t, d, image)
	}
}

func TestP305ErrorsInTheirOrder(t *testing.T) {
	lengths := []int{0, 1, 511, 513, 1024}
	outside := []int{math.MinInt, -1, 2, 3, math.MaxInt}
	image := striped(2)
	down, up := fallen(t, image), loaded(t, image)
	for _, n := range append(outside, 0, 1) {
		for _, length := range append(lengths, 512) {
			mustWrite(t, down, n, make([]byte, length), api.ErrFallen)
		}
	}
	for _, n := range outside {
		for _, length := range append(lengths, 512) {
			mustWrite(t, up, n, make([]byte, length), api.ErrRange)
		}
	}
	for n := range 2 {
		mustWrite(t, up, n, nil, api.ErrLength)
		for _, length := range lengths {
			mustWrite(t, up, n, make([]byte, length), api.ErrLength)
		}
	}
	mustHold(t, down, image)
	mustHold(t, up, image)
	mustCount(t, down, 0, 1)
	mustCount(t, up, 0, 0)
}

// Each place at which a write can be torn, over a sector that was written and over one that nobody has written.
func TestP305TornAtEachByte(t *testing.T) {
	for torn := range 513 {
		for n, old := range []byte{5, 0, 6} {
			d := made(t, 3)
			mustWrite(t, d, 0, full(5), api.OK)
			mustWrite(t, d, 2, full(6), api.OK)
			image := d.Image()
			d.Arm(0, torn)
			mustWrite(t, d, n, full(9), api.ErrFallen)
			mustStand(t, d, false)
			copy(part(image, n), append(full(9)[:torn:torn], full(old)[torn:]...))
			mustHold(t, d, image)
			d.Start()
			mustRead(t, d, n, part(image, n))
		}
	}
}

func TestP305OneWriteLess(t *testing.T) {
	for writes := range 9 {
		d := made(t, 2)
		d.Arm(writes, 4)
		for i := range writes {
			mustWrite(t, d, i%2, full(byte(i+1)), api.OK)
			mustStand(t, d, true)
			mustRead(t, d, i%2, full(byte(i+1)))
		}
		mustWrite(t, d, 1, full(77), api.ErrFallen)
		mustStand(t, d, false)
		mustWrite(t, d, 1, full(78), api.ErrFallen)
	}
}

// Reads, and all that is not a write, take no write of an armed disk.
func TestP305OthersTakeNoWrite(t *testing.T) {
	d := made(t, 2)
	d.Arm(1, 2)
	for range 5 {
		mustRead(t, d, 0, full(0))
		mustNotRead(t, d, 2, api.ErrRange)
		mustHold(t, d, make([]byte, 1024))
		mustStand(t, d, true)
		mustCount(t, d, d.Counts().Reads, 0)
	}
	mustWrite(t, d, 0, full(1), api.OK)
	mustWrite(t, d, 0, full(2), api.ErrFallen)
}

func TestP305RefusedTakesNoWrite(t *testing.T) {
	d := made(t, 2)
	for _, writes := range []int{0, 1, 2} {
		d.Arm(writes, 512)
		for i := range writes + 1 {
			for range 3 {
				mustWrite(t, d, 2, full(1), api.ErrRange)
				mustWrite(t, d, -1, full(1), api.ErrRange)
				mustWrite(t, d, 0, full(1)[1:], api.ErrLength)
				mustWrite(t, d, 0, append(full(1), 1), api.ErrLength)
				mustStand(t, d, true)
			}
			want := api.OK
			if i == writes {
				want = api.ErrFallen
			}
			mustWrite(t, d, 0, full(1), want)
		}
		d.Start()
	}
}

func TestP306Edges(t *testing.T) {
	for _, c := range []struct{ writes, torn, whole, keeps int }{
		{0, 0, 0, 0}, {-1, 3, 0, 3}, {math.MinInt, 3, 0, 3}, {0, -1, 0, 0}, {0, math.MinInt, 0, 0}, {1, 1, 1, 1},
		{2, 511, 2, 511}, {2, 512, 2, 512}, {2, 513, 2, 512}, {0, 600, 0, 512}, {0, math.MaxInt, 0, 512}, {-9, -9, 0, 0},
	} {
		d := loaded(t, full(7))
		d.Arm(c.writes, c.torn)
		for range c.whole {
			mustWrite(t, d, 0, full(7), api.OK)
		}
		mustWrite(t, d, 0, full(8), api.ErrFallen)
		mustStand(t, d, false)
		mustHold(t, d, append(full(8)[:c.keeps:c.keeps], full(7)[c.keeps:]...))
	}
}

func TestP306ManyWrites(t *testing.T) {
	d := made(t, 1)
	d.Arm(math.MaxInt, 0)
	for i := range 1000 {
		mustWrite(t, d, 0, full(byte(i)), api.OK)
	}
}

func TestP306Anew(t *testing.T) {
	for _, elder := range [][2]int{{0, 5}, {1, 500}, {9, 0}} {
		for _, writes := range []int{0, 1, 4} {
			d := made(t, 1)
			d.Arm(elder[0], elder[1])
			if elder[0] > 0 {
				mustWrite(t, d, 0, full(3), api.OK)
			}
			d.Arm(writes, 6)
			for range writes {
				mustWrite(t, d, 0, full(3), api.OK)
			}
			old := d.Image()
			mustWrite(t, d, 0, full(4), api.ErrFallen)
			mustHold(t, d, append(full(4)[:6:6], old[6:]...))
		}
	}
}

func TestP306OfAFallenDisk(t *testing.T) {
	for _, writes := range []int{-1, 0, 1, 5} {
		image := striped(2)
		d := fallen(t, image)
		d.Arm(writes, 4)
		mustStand(t, d, false)
		mustNotRead(t, d, 0, api.ErrFallen)
		mustWrite(t, d, 0, full(1), api.ErrFallen)
		mustHold(t, d, image)
		mustCount(t, d, 0, 1)
		d.Start()
		for range 9 {
			mustWrite(t, d, 0, full(1), api.OK)
		}
	}
}

func TestP307Start(t *testing.T) {
	image := striped(2)
	d := fallen(t, image)
	d.Start()
	mustStand(t, d, true)
	mustHold(t, d, image)
	mustRead(t, d, 1, part(image, 1))
	for i := range 9 {
		mustWrite(t, d, 1, full(byte(i)), api.OK)
	}
	mustCount(t, d, 1, 10)
}

func TestP307StartOfAnArmedDisk(t *testing.T) {
	image := striped(1)
	for writes := range 3 {
		d := loaded(t, image)
		d.Arm(writes, 1)
		d.Start()
		mustHold(t, d, image)
		for i := range 5 {
			mustWrite(t, d, 0, full(byte(i)), api.OK)
		}
	}
}

func TestP307StartOfOneThatStands(t *testing.T) {
	image := striped(2)
	d := loaded(t, image)
	d.Start()
	mustStand(t, d, true)
	mustHold(t, d, image)
	mustCount(t, d, 0, 0)
	d.Arm(0, 1)
	mustWrite(t, d, 0, full(1), api.ErrFallen)
}

func TestP308Counts(t *testing.T) {
	d := made(t, 2)
	mustCount(t, d, 0, 0)
	mustRead(t, d, 1, full(0))
	mustCount(t, d, 1, 0)
	mustWrite(t, d, 1, full(1), api.OK)
	mustCount(t, d, 1, 1)
	mustNotRead(t, d, 2, api.ErrRange)
	mustWrite(t, d, 2, full(1), api.ErrRange)
	mustWrite(t, d, 0, nil, api.ErrLength)
	mustCount(t, d, 1, 1)
	for i, torn := range []int{0, 1, 511, 512} {
		d.Arm(0, torn)
		mustWrite(t, d, 0, full(2), api.ErrFallen)
		mustCount(t, d, 1, 2+i)
		mustWrite(t, d, 0, full(2), api.ErrFallen)
		mustNotRead(t, d, 0, api.ErrFallen)
		d.Image()
		d.Arm(3, 3)
		mustCount(t, d, 1, 2+i)
		d.Start()
		mustCount(t, d, 1, 2+i)
	}
	d.Arm(1, 0)
	mustWrite(t, d, 0, full(2), api.OK)
	mustRead(t, d, 0, full(2))
	mustCount(t, d, 2, 6)
}

func TestP309Image(t *testing.T) {
	d := made(t, 3)
	mustWrite(t, d, 2, full(4), api.OK)
	mustWrite(t, d, 0, full(5), api.OK)
	want := bytes.Join([][]byte{full(5), full(0), full(4)}, nil)
	mustHold(t, d, want)
	d.Arm(0, 2)
	mustHold(t, d, want)
	mustWrite(t, d, 1, full(6), api.ErrFallen)
	want[512], want[513] = 6, 6
	mustHold(t, d, want)
	again := loaded(t, d.Image())
	mustHold(t, again, want)
	mustStand(t, again, true)
	mustCount(t, again, 0, 0)
	d.Start()
	mustHold(t, d, want)
	if again.Sectors() != 3 {
		t.Errorf("%d sectors", again.Sectors())
	}
}

// Disks that came to one image in unlike ways answer alike from there on.
func TestP310OneImageManyWays(t *testing.T) {
	image := bytes.Join([][]byte{full(0), full(3), append(full(1)[:9:9], full(2)[9:]...), full(0)}, nil)
	for _, row := range rows(4, 200, 40) {
		for _, d := range waysTo(t, image) {
			mustHold(t, d, image)
			m := newModel(image)
			m.reads, m.writes = d.Counts().Reads, d.Counts().Writes
			for _, c := range row {
				c.play(t, d, m)
			}
		}
	}
}

func waysTo(t *testing.T, image []byte) []*disk.Disk {
	t.Helper()
	written, again, over, torn := made(t, 4), made(t, 4), loaded(t, striped(4)), made(t, 4)
	for n := range 4 {
		mustWrite(t, over, n, part(image, n), api.OK)
		mustRead(t, over, n, part(image, n))
		again.Arm(n%2, 1)
		again.Write(3-n, full(8))
		again.Start()
	}
	for n := range 4 {
		mustWrite(t, again, n, part(image, n), api.OK)
	}
	mustWrite(t, written, 2, part(image, 2), api.OK)
	mustWrite(t, written, 1, part(image, 1), api.OK)
	mustWrite(t, torn, 2, full(2), api.OK)
	torn.Arm(1, 9)
	mustWrite(t, torn, 1, full(3), api.OK)
	mustWrite(t, torn, 2, full(1), api.ErrFallen)
	torn.Start()
	return []*disk.Disk{loaded(t, image), written, again, over, torn}
}

func TestP311AWriteChangesItsSectorAlone(t *testing.T) {
	image := striped(65)
	for n := range 65 {
		for _, torn := range []int{-1, 0, 1, 200, 511, 512} {
			d, want := loaded(t, image), bytes.Clone(image)
			if torn < 0 {
				mustWrite(t, d, n, full(0), api.OK)
				clear(part(want, n))
			} else {
				d.Arm(0, torn)
				mustWrite(t, d, n, full(0), api.ErrFallen)
				clear(part(want, n)[:torn])
			}
			mustHold(t, d, want)
		}
	}
}

func TestP311TheLastSectorOfTheGreatestDisk(t *testing.T) {
	d := made(t, api.MaxSectors)
	mustWrite(t, d, api.MaxSectors-1, full(3), api.OK)
	mustWrite(t, d, 0, full(4), api.OK)
	mustWrite(t, d, api.MaxSectors, full(5), api.ErrRange)
	want := make([]byte, api.MaxSectors*512)
	copy(want, full(4))
	copy(part(want, api.MaxSectors-1), full(3))
	mustHold(t, d, want)
}

func TestP311OthersChangeNoByte(t *testing.T) {
	image := striped(3)
	for _, d := range []*disk.Disk{loaded(t, image), fallen(t, image)} {
		for range 2 {
			d.Read(0)
			d.Read(3)
			mustHold(t, d, image)
			d.Arm(0, 100)
			mustHold(t, d, image)
			d.Fallen()
			d.Sectors()
			d.Counts()
			d.Image()
			mustHold(t, d, image)
			d.Start()
			mustHold(t, d, image)
		}
	}
}

// All rows of five calls out of some that bear on one another, and long ones by a rule.
func TestP305AllShortRows(t *testing.T) {
	some := []call{
		{name: "write", a: 0, data: full(1)}, {name: "write", a: 1, data: full(2)}, {name: "write", a: 2, data: full(3)}, {name: "write", a: 1, data: full(4)[1:]},
		{name: "arm", a: 0, b: 3}, {name: "arm", a: 1, b: 600}, {name: "arm", a: -1, b: -1}, {name: "start"}, {name: "read", a: 1},
	}
	const length = 5
	many := 1
	for range length {
		many *= len(some)
	}
	for row := range many {
		image := append(full(5), full(6)...)
		d, m := loaded(t, image), newModel(image)
		for range length {
			some[row%len(some)].play(t, d, m)
			row /= len(some)
		}
	}
}

func TestP305LongRows(t *testing.T) {
	for _, sectors := range []int{1, 2, 3, 17} {
		for _, row := range rows(sectors, 100, 200) {
			d, m := made(t, sectors), newModel(make([]byte, sectors*512))
			for _, c := range row {
				c.play(t, d, m)
			}
		}
	}
}
