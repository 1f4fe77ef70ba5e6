package disk_test

import (
	"bytes"
	"testing"

	"cairn/api"
	"cairn/disk"
)

// spoil fills bytes, their spare room too.
func spoil(b []byte) {
	b = b[:cap(b)]
	for i := range b {
		b[i] = 0xee
	}
}

// roomy has the same bytes, with spare room behind them.
func roomy(b []byte) []byte {
	room := append(bytes.Clone(b), striped(2)...)
	return room[:len(b)]
}

func mustBe(t *testing.T, what string, got, want []byte) {
	t.Helper()
	if !bytes.Equal(got, want) {
		t.Fatalf("%s: other bytes than before", what)
	}
}

func TestP2LoadKeepsAndChangesNothing(t *testing.T) {
	image := roomy(striped(3))
	before := bytes.Clone(image[:cap(image)])
	d := loaded(t, image)
	mustWrite(t, d, 0, full(1), api.OK)
	mustWrite(t, d, 2, full(2), api.OK)
	mustBe(t, "the image handed in", image[:cap(image)], before)
	spoil(image)
	mustHold(t, d, bytes.Join([][]byte{full(1), striped(3)[512:1024], full(2)}, nil))
}

func TestP2WriteKeepsAndChangesNothing(t *testing.T) {
	d := made(t, 2)
	for _, torn := range []int{-1, 0, 100, 512} {
		want := api.OK
		if torn >= 0 {
			d.Arm(0, torn)
			want = api.ErrFallen
		}
		b := roomy(full(9))
		before := bytes.Clone(b[:cap(b)])
		mustWrite(t, d, 0, b, want)
		mustBe(t, "the bytes handed in", b[:cap(b)], before)
		image := d.Image()
		spoil(b)
		mustHold(t, d, image)
		d.Start()
		mustWrite(t, d, 0, full(3), api.OK)
		spoil(b)
		mustRead(t, d, 0, full(3))
	}
	short := roomy(full(9)[1:])
	before := bytes.Clone(short[:cap(short)])
	mustWrite(t, d, 1, short, api.ErrLength)
	mustBe(t, "the bytes that were refused", short[:cap(short)], before)
	mustRead(t, d, 1, full(0))
}

func TestP2AnswersAreNewMemory(t *testing.T) {
	image := striped(2)
	clear(part(image, 1))
	d := loaded(t, image)
	for n := range 2 {
		first, _ := d.Read(n)
		second, _ := d.Read(n)
		spoil(first)
		mustBe(t, "a second Read", second, part(image, n))
		mustRead(t, d, n, part(image, n))
	}
	first, second := d.Image(), d.Image()
	spoil(first)
	mustBe(t, "a second Image", second, image)
	mustHold(t, d, image)
}

// What was answered stays as it was, whatever is written later.
func TestP2AnswersStay(t *testing.T) {
	image := striped(2)
	d := loaded(t, image)
	b, _ := d.Read(1)
	whole := d.Image()
	mustWrite(t, d, 1, full(8), api.OK)
	d.Arm(0, 77)
	mustWrite(t, d, 0, full(8), api.ErrFallen)
	mustBe(t, "an elder Read", b, part(image, 1))
	mustBe(t, "an elder Image", whole, image)
}

func TestP3TheSameAgain(t *testing.T) {
	for _, row := range rows(3, 20, 60) {
		first, second := made(t, 3), made(t, 3)
		for _, c := range row {
			if a, b := answerOf(c, first), answerOf(c, second); a != b {
				t.Fatalf("%v: %v, then %v", c, a, b)
			}
		}
	}
}

// answer is what a disk tells at a call and behind it.
type answer struct {
	err    api.Errno
	bytes  string
	fallen bool
	counts api.Counts
	image  string
}

func answerOf(c call, d *disk.Disk) answer {
	var a answer
	switch c.name {
	case "read":
		var b []byte
		b, a.err = d.Read(c.a)
		a.bytes = string(b)
	case "write":
		a.err = d.Write(c.a, c.data)
	case "arm":
		d.Arm(c.a, c.b)
	case "start":
		d.Start()
	}
	a.fallen, a.counts, a.image = d.Fallen(), d.Counts(), string(d.Image())
	return a
}

// Two disks are gone over turn by turn, by unlike rows: each is as its own row alone makes it.
func TestP7DisksSeeNothingOfOneAnother(t *testing.T) {
	list := rows(3, 40, 80)
	image := striped(3)
	for i := range len(list) / 2 {
		one, other := list[2*i], list[2*i+1]
		a, b := loaded(t, image), loaded(t, image)
		forA, forB := newModel(image), newModel(image)
		for k := range one {
			one[k].play(t, a, forA)
			other[k].play(t, b, forB)
		}
		mustHold(t, a, forA.image)
	}
}

func TestP7EachDiskIsItsOwn(t *testing.T) {
	a, b := made(t, 2), made(t, 2)
	mustWrite(t, a, 0, full(1), api.OK)
	a.Arm(0, 3)
	mustWrite(t, b, 1, full(2), api.OK)
	mustWrite(t, a, 1, full(9), api.ErrFallen)
	mustStand(t, b, true)
	mustHold(t, a, bytes.Join([][]byte{full(1), {9, 9, 9}, full(0)[3:]}, nil))
	mustHold(t, b, append(full(0), full(2)...))
	mustCount(t, a, 0, 2)
	mustCount(t, b, 0, 1)
	b.Start()
	mustStand(t, a, false)
}

// A disk that neither New nor Load made has no sector.
func TestP1EmptyDisk(t *testing.T) {
	var d disk.Disk
	for range 2 {
		mustNotRead(t, &d, 0, api.ErrRange)
		mustWrite(t, &d, 0, full(1), api.ErrRange)
		mustHold(t, &d, nil)
		mustCount(t, &d, 0, 0)
		d.Arm(0, 1)
		mustStand(t, &d, true)
		d.Start()
	}
	if d.Sectors() != 0 {
		t.Errorf("%d sectors", d.Sectors())
	}
}
