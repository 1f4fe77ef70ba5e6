package disk_test

import (
	"bytes"
	"fmt"
	"testing"

	"cairn/api"
	"cairn/disk"
)

// full is a sector of one byte.
func full(c byte) []byte {
	return bytes.Repeat([]byte{c}, api.Sector)
}

// striped is an image in which neighbouring bytes and neighbouring sectors are unlike.
func striped(sectors int) []byte {
	image := make([]byte, sectors*api.Sector)
	for i := range image {
		image[i] = byte(1 + i%251 + i/api.Sector)
	}
	return image
}

func part(image []byte, n int) []byte {
	return image[n*api.Sector : (n+1)*api.Sector]
}

func made(t *testing.T, sectors int) *disk.Disk {
	t.Helper()
	d, err := disk.New(sectors)
	if err != api.OK || d == nil {
		t.Fatalf("New(%d): %v, %v", sectors, d, err)
	}
	return d
}

func loaded(t *testing.T, image []byte) *disk.Disk {
	t.Helper()
	d, err := disk.Load(image)
	if err != api.OK || d == nil {
		t.Fatalf("Load of %d bytes: %v", len(image), err)
	}
	return d
}

// fallen is a disk of these bytes that has fallen, and all of whose bytes are still there.
func fallen(t *testing.T, image []byte) *disk.Disk {
	t.Helper()
	d := loaded(t, image)
	d.Arm(0, 0)
	mustWrite(t, d, 0, full(255), api.ErrFallen)
	return d
}

func mustWrite(t *testing.T, d *disk.Disk, n int, b []byte, want api.Errno) {
	t.Helper()
	if err := d.Write(n, b); err != want {
		t.Fatalf("Write(%d, %d bytes): %v, want %v", n, len(b), err, want)
	}
}

func mustRead(t *testing.T, d *disk.Disk, n int, want []byte) {
	t.Helper()
	if b, err := d.Read(n); err != api.OK || !bytes.Equal(b, want) {
		t.Fatalf("Read(%d): %v, %v", n, b, err)
	}
}

func mustNotRead(t *testing.T, d *disk.Disk, n int, want api.Errno) {
	t.Helper()
	if b, err := d.Read(n); err != want || len(b) != 0 {
		t.Fatalf("Read(%d): %d bytes, %v, want %v", n, len(b), err, want)
	}
}

func mustHold(t *testing.T, d *disk.Disk, want []byte) {
	t.Helper()
	if !bytes.Equal(d.Image(), want) {
		t.Fatalf("the image is not the one that is wanted")
	}
}

func mustCount(t *testing.T, d *disk.Disk, reads, writes int) {
	t.Helper()
	if got := d.Counts(); got != (api.Counts{Reads: reads, Writes: writes}) {
		t.Fatalf("Counts %v, want {%d %d}", got, reads, writes)
	}
}

func mustStand(t *testing.T, d *disk.Disk, want bool) {
	t.Helper()
	if d.Fallen() == want {
		t.Fatalf("Fallen: %v", !want)
	}
}

// model says of a disk what the chapter says, with its bytes in one row.
type model struct {
	image         []byte
	armed, fallen bool
	left, torn    int
	reads, writes int
	sectors       int
}

func newModel(image []byte) *model {
	return &model{image: bytes.Clone(image), sectors: len(image) / api.Sector}
}

func (m *model) read(n int) ([]byte, api.Errno) {
	switch {
	case m.fallen:
		return nil, api.ErrFallen
	case n < 0 || n > m.sectors-1:
		return nil, api.ErrRange
	}
	m.reads++
	return part(m.image, n), api.OK
}

func (m *model) write(n int, b []byte) api.Errno {
	switch {
	case m.fallen:
		return api.ErrFallen
	case n < 0 || n > m.sectors-1:
		return api.ErrRange
	case len(b) != api.Sector:
		return api.ErrLength
	}
	m.writes++
	if m.armed && m.left == 0 {
		for i := range m.torn {
			m.image[n*api.Sector+i] = b[i]
		}
		m.armed, m.fallen = false, true
		return api.ErrFallen
	}
	copy(part(m.image, n), b)
	m.left--
	return api.OK
}

func (m *model) arm(writes, torn int) {
	if m.fallen {
		return
	}
	if writes < 0 {
		writes = 0
	}
	if torn < 0 {
		torn = 0
	}
	if torn > 512 {
		torn = 512
	}
	m.armed, m.left, m.torn = true, writes, torn
}

func (m *model) start() {
	m.armed, m.fallen = false, false
}

// call is one call of a disk, as a value.
type call struct {
	name string
	a, b int
	data []byte
}

func (c call) String() string {
	return fmt.Sprintf("%s(%d, %d) of %d bytes", c.name, c.a, c.b, len(c.data))
}

// play makes the call of both, and holds all that the disk tells against the model.
func (c call) play(t *testing.T, d *disk.Disk, m *model) {
	t.Helper()
	switch c.name {
	case "read":
		got, err := d.Read(c.a)
		want, wantErr := m.read(c.a)
		if err != wantErr || !bytes.Equal(got, want) {
			t.Fatalf("%v: %v, want %v, or the bytes are others", c, err, wantErr)
		}
	case "write":
		if err, want := d.Write(c.a, c.data), m.write(c.a, c.data); err != want {
			t.Fatalf("%v: %v, want %v", c, err, want)
		}
	case "arm":
		d.Arm(c.a, c.b)
		m.arm(c.a, c.b)
	case "start":
		d.Start()
		m.start()
	}
	if d.Fallen() != m.fallen || d.Sectors() != m.sectors || d.Counts() != (api.Counts{Reads: m.reads, Writes: m.writes}) {
		t.Fatalf("behind %v: Fallen %v, Sectors %d, Counts %v", c, d.Fallen(), d.Sectors(), d.Counts())
	}
	if !bytes.Equal(d.Image(), m.image) {
		t.Fatalf("behind %v: another image", c)
	}
}

// rows are many rows of calls for a disk of so many sectors, by a fixed rule.
func rows(sectors, many, length int) [][]call {
	seed := uint64(sectors)
	next := func(n int) int {
		seed = seed*6364136223846793005 + 1442695040888963407
		return int(seed>>33) % n
	}
	list := make([][]call, many)
	for i := range list {
		for range length {
			list[i] = append(list[i], someCall(sectors, next))
		}
	}
	return list
}

func someCall(sectors int, next func(int) int) call {
	switch kind := next(20); {
	case kind < 4:
		return call{name: "read", a: next(sectors+2) - 1}
	case kind < 13:
		b := full(byte(next(4)))
		b[next(api.Sector)] = byte(next(256))
		return call{name: "write", a: next(sectors+2) - 1, data: b}
	case kind < 14:
		return call{name: "write", a: next(sectors+2) - 1, data: make([]byte, api.Sector-1+2*next(2))}
	case kind < 17:
		return call{name: "arm", a: next(6) - 1, b: next(530) - 5}
	default:
		return call{name: "start"}
	}
}
