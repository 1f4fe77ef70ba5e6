package wire_test

import (
	"bytes"
	"hash/crc32"
	"testing"

	"cairn/api"
	"cairn/wire"
)

// four tells a number's four bytes, the lowest eight bits first.
func four(n int) []byte {
	return []byte{byte(n), byte(n >> 8), byte(n >> 16), byte(n >> 24)}
}

// mixed is so many bytes of all sorts.
func mixed(n int) []byte {
	b := make([]byte, n)
	for i := range b {
		b[i] = byte(i*i>>3 ^ i*37 ^ i>>8)
	}
	return b
}

func mustOpen(t *testing.T, what string, b, want []byte, e api.Errno) {
	t.Helper()
	if x, f := wire.Open(b); !bytes.Equal(x, want) || f != e {
		t.Errorf("Open of %s: %d bytes, %v; want %d, %v", what, len(x), f, len(want), e)
	}
}

// Behind the head's sum the length may say what it likes.
func sealedHead(length int) []byte {
	return append(four(length), four(wire.Sum(four(length)))...)
}

func TestP104Sum(t *testing.T) {
	for _, c := range []struct {
		s   string
		sum int
	}{{"", 0}, {"123456789", 0xE3069283}, {"\x00", 0x527D5351}, {string(make([]byte, 32)), 0x8A9136AA}, {string(full(32)), 0x62A8AB43}} {
		if n := wire.Sum([]byte(c.s)); n != c.sum {
			t.Errorf("Sum of %q: %d, want %d", c.s, n, c.sum)
		}
	}
	// The document's sum is the one that the library calls Castagnoli's.
	table := crc32.MakeTable(2197175160)
	for n := range 600 {
		b := mixed(n)
		if s := wire.Sum(b); s != int(crc32.Checksum(b, table)) || s < 0 || s >= 1<<32 {
			t.Errorf("Sum of %d bytes: %d", n, s)
		}
	}
	for x := range 256 {
		b := []byte{byte(x)}
		if s := wire.Sum(b); s != int(crc32.Checksum(b, table)) {
			t.Errorf("Sum of %v: %d", b, s)
		}
	}
}

func TestP105Seal(t *testing.T) {
	for _, n := range []int{0, 1, 4, 255, 256, 1 << 16, api.MaxBytes - 1, api.MaxBytes} {
		body := mixed(n)
		want := append(sealedHead(n), body...)
		want = append(want, four(wire.Sum(want))...)
		if s := wire.Seal(body); !bytes.Equal(s, want) {
			t.Errorf("Seal of %d bytes is not head, body and sum: %d bytes", n, len(s))
		}
	}
	for _, n := range []int{api.MaxBytes + 1, 2 * api.MaxBytes, 1 << 20} {
		if s := wire.Seal(make([]byte, n)); len(s) != 0 {
			t.Errorf("Seal of %d bytes: %d bytes", n, len(s))
		}
	}
	if s := wire.Seal(nil); len(s) != 12 {
		t.Errorf("Seal of no bytes: %v", s)
	}
}

func TestP106Open(t *testing.T) {
	none := wire.Seal(nil)
	seven := wire.Seal([]byte{7})
	wrongHead := bytes.Clone(none)
	wrongHead[4]++
	wrongSum := bytes.Clone(seven)
	wrongSum[len(wrongSum)-1] ^= 1
	badLong := sealedHead(api.MaxBytes + 1)
	badLong[7] ^= 128
	for _, c := range []struct {
		what string
		b    []byte
		want []byte
		e    api.Errno
	}{
		{"Seal of no bytes", none, nil, api.OK},
		{"Seal of 7", seven, []byte{7}, api.OK},
		{"no list", nil, nil, api.ErrCut},
		{"seven bytes", none[:7], nil, api.ErrCut},
		{"seven bytes with a wrong length", []byte{255, 255, 255, 255, 255, 255, 255}, nil, api.ErrCut},
		{"eleven bytes", none[:11], nil, api.ErrCut},
		{"a head alone", none[:8], nil, api.ErrCut},
		{"a head that says the most", sealedHead(api.MaxBytes), nil, api.ErrCut},
		{"a head that says one more", sealedHead(api.MaxBytes + 1), nil, api.ErrLong},
		{"a head that says all that four bytes can", sealedHead(1<<32 - 1), nil, api.ErrLong},
		{"a long head and bytes behind it", append(sealedHead(1<<31), mixed(50)...), nil, api.ErrLong},
		{"a long head with a wrong sum", badLong, nil, api.ErrSum},
		{"a wrong head", wrongHead, nil, api.ErrSum},
		{"a wrong head, cut", wrongHead[:8], nil, api.ErrSum},
		{"a wrong head and a byte more", append(bytes.Clone(wrongHead), 0), nil, api.ErrSum},
		{"a wrong sum", wrongSum, nil, api.ErrSum},
		{"a wrong sum, cut", wrongSum[:len(wrongSum)-2], nil, api.ErrCut},
		{"a wrong sum and a byte more", append(bytes.Clone(wrongSum), 0), nil, api.ErrForm},
		{"a byte more", append(bytes.Clone(none), 0), nil, api.ErrForm},
		{"two in one", append(bytes.Clone(none), seven...), nil, api.ErrForm},
		{"zeros", make([]byte, 12), nil, api.ErrSum},
	} {
		mustOpen(t, c.what, c.b, c.want, c.e)
	}
}

// A body that is too long has right sums all the same: its length alone refuses it.
func TestP106LongerThanMayBe(t *testing.T) {
	b := append(sealedHead(api.MaxBytes+1), make([]byte, api.MaxBytes+1)...)
	b = append(b, four(wire.Sum(b))...)
	mustOpen(t, "one byte past the longest body", b, nil, api.ErrLong)
}

func TestP107OneWay(t *testing.T) {
	for _, n := range []int{0, 1, 2, 12, 300, 4096, api.MaxBytes} {
		body := mixed(n)
		sealed := wire.Seal(body)
		mustOpen(t, "a sealed body", sealed, body, api.OK)
		opened, _ := wire.Open(sealed)
		if !bytes.Equal(wire.Seal(opened), sealed) {
			t.Errorf("Seal of the %d bytes that Open tells is not what was opened", n)
		}
	}
}

func TestP107AnotherByte(t *testing.T) {
	for _, n := range []int{0, 1, 24} {
		sealed := wire.Seal(mixed(n))
		for at := range sealed {
			for by := 1; by < 256; by++ {
				x := bytes.Clone(sealed)
				x[at] ^= byte(by)
				if b, e := wire.Open(x); e == api.OK || len(b) != 0 {
					t.Errorf("byte %d of %d is another one: %d bytes, %v", at, len(x), len(b), e)
				}
			}
		}
	}
	sealed := wire.Seal(mixed(api.MaxBytes))
	for _, at := range []int{0, 3, 7, 8, api.MaxBytes / 2, api.MaxBytes + 7, api.MaxBytes + 11} {
		x := bytes.Clone(sealed)
		x[at] ^= 16
		mustOpen(t, "the longest body with another byte", x, nil, api.ErrSum)
	}
}

func TestP107MissingOrTooMany(t *testing.T) {
	for _, n := range []int{0, 1, 24} {
		sealed := wire.Seal(mixed(n))
		for end := range len(sealed) {
			mustOpen(t, "a sealed body that is cut", sealed[:end], nil, api.ErrCut)
		}
		for many := 1; many < 40; many++ {
			mustOpen(t, "a sealed body with more behind it", append(bytes.Clone(sealed), mixed(many)...), nil, api.ErrForm)
		}
	}
}

func TestP2BodiesShareNothing(t *testing.T) {
	room := []byte{1, 2, 3, 4, 5, 6}
	sealed := wire.Seal(room[:3])
	wire.Sum(room[:3])
	if !bytes.Equal(room, []byte{1, 2, 3, 4, 5, 6}) {
		t.Errorf("Seal changed what was handed in: %v", room)
	}
	kept := bytes.Clone(sealed)
	body, _ := wire.Open(sealed)
	spoil(body)
	if !bytes.Equal(sealed, kept) {
		t.Error("Open's answer shares memory with what was handed in")
	}
	spoil(sealed)
	if !bytes.Equal(room, []byte{1, 2, 3, 4, 5, 6}) || !bytes.Equal(wire.Seal(room[:3]), kept) {
		t.Error("Seal's answer shares memory")
	}
}
