package audit_test

import (
	"bytes"
	"testing"

	"cairn/api"
)

// bytesOf has as many as a block of the configuration.
func bytesOf(c api.Config, b byte) []byte { return bytes.Repeat([]byte{b}, c.Block) }

// Unlike bytes with one Stamp, wherever they are unlike and whichever disks hold them.
func TestP1902Tag(t *testing.T) {
	for _, c := range []api.Config{three(), wide(), five(), seven()} {
		found := fault(api.FTag, blockAt(0))
		a := written(7, 4, bytesOf(c, 1)...)
		for i := range c.Block {
			b := written(7, 4, bytesOf(c, 1)...)
			b.Data[i]++
			mustFind(t, c, of(c, blockAt(0), a, b), found)
			mustFind(t, c, of(c, blockAt(0), a, nil, b), found)
			mustFind(t, c, of(c, blockAt(0), a, a, b), found)
			mustFind(t, c, of(c, blockAt(0), a, written(8, 4, bytesOf(c, 9)...), b), found)
			mustFind(t, c, of(c, blockAt(0), a, zeros(c), b), found)
		}
		mustFind(t, c, of(c, blockAt(0), a, a, a))
		mustFind(t, c, of(c, blockAt(0), a))
	}
}

// Unlike bytes with unlike Stamps, by the N or by the client alone.
func TestP1902TwoTags(t *testing.T) {
	for _, c := range []api.Config{three(), wide(), five(), seven()} {
		a, b := bytesOf(c, 1), bytesOf(c, 2)
		for _, s := range []api.Stamp{stamp(6, 4), stamp(8, 4), stamp(7, 3), stamp(7, 5), stamp(4, 7), stamp(api.MaxNum, 255)} {
			mustFind(t, c, of(c, blockAt(0), written(7, 4, a...), written(s.N, s.Client, b...)))
			mustFind(t, c, of(c, blockAt(0), written(7, 4, a...), written(s.N, s.Client, b...), written(7, 4, a...)))
			mustFind(t, c, of(c, blockAt(0), written(7, 4, a...), written(s.N, s.Client, b...), written(s.N, s.Client, a...)), fault(api.FTag, blockAt(0)))
		}
	}
}

// Two blocks are two: what lies under one key is not held against what lies under another.
func TestP1902TagsOfTwoBlocks(t *testing.T) {
	c := three()
	a, b := written(7, 4, 1, 2, 3), written(7, 4, 1, 2, 4)
	mustFind(t, c, []api.Image{image(c, 1, records{blockAt(0): a, blockAt(1): b}), image(c, 2, records{blockAt(0): a, blockAt(1): b}), image(c, 3, records{blockAt(2): b})})
	mustFind(t, c, []api.Image{image(c, 1, records{blockAt(0): a, blockAt(1): b}), image(c, 2, records{blockAt(0): b, blockAt(1): b})}, fault(api.FTag, blockAt(0)))
	mustFind(t, c, []api.Image{image(c, 1, records{blockAt(0): a, blockAt(1): b}), image(c, 2, records{blockAt(0): b, blockAt(1): a})}, fault(api.FTag, blockAt(0)), fault(api.FTag, blockAt(1)))
}

// A block with the Stamp {0, 0} that lies there is a record that is one.
func TestP1902ZerosThatLieThere(t *testing.T) {
	for _, c := range []api.Config{three(), wide(), five(), seven()} {
		mustFind(t, c, of(c, blockAt(0), zeros(c), zeros(c), zeros(c)))
		mustFind(t, c, of(c, blockAt(0), zeros(c), written(1, 1, bytesOf(c, 5)...)))
		mustFind(t, c, of(c, blockAt(0), zeros(c), written(1, 1, bytesOf(c, 0)...)))
	}
}

func TestP1904Block(t *testing.T) {
	for _, c := range []api.Config{three(), wide(), five(), seven()} {
		k := blockAt(3)
		byStamp := func(n, client int) api.Block { return written(n, client, bytesOf(c, byte(n+16*client))...) }
		for _, x := range []struct {
			disks []any
			want  api.Block
		}{
			{nil, api.Block{}},
			{[]any{nil, nil, nil}, api.Block{}},
			{[]any{zeros(c), nil, zeros(c)}, api.Block{}},
			{[]any{zeros(c)}, api.Block{}},
			{[]any{nil, byStamp(1, 1), nil}, byStamp(1, 1)},
			{[]any{zeros(c), byStamp(1, 1), zeros(c)}, byStamp(1, 1)},
			{[]any{byStamp(1, 1), byStamp(2, 1), byStamp(3, 1)}, byStamp(3, 1)},
			{[]any{byStamp(3, 1), byStamp(2, 9), byStamp(1, 9)}, byStamp(3, 1)},
			{[]any{byStamp(2, 4), byStamp(2, 5), byStamp(1, 9)}, byStamp(2, 5)},
			{[]any{byStamp(2, 5), byStamp(2, 4), byStamp(2, 3)}, byStamp(2, 5)},
			{[]any{byStamp(2, 5), byStamp(2, 5), byStamp(2, 5)}, byStamp(2, 5)},
			{[]any{byStamp(api.MaxNum, 1), byStamp(2, 5), byStamp(api.MaxNum, 255)}, byStamp(api.MaxNum, 255)},
			{[]any{written(1, 1, bytesOf(c, 0)...), zeros(c)}, written(1, 1, bytesOf(c, 0)...)},
			// of alike ones that of the first image, though their bytes are unlike
			{[]any{written(2, 5, bytesOf(c, 1)...), written(2, 5, bytesOf(c, 2)...), written(2, 5, bytesOf(c, 3)...)}, written(2, 5, bytesOf(c, 1)...)},
			{[]any{written(1, 5, bytesOf(c, 1)...), written(2, 5, bytesOf(c, 9)...), written(2, 5, bytesOf(c, 3)...)}, written(2, 5, bytesOf(c, 9)...)},
			// records that are none are passed over
			{[]any{[]byte{}, packed(c, byStamp(9, 9))[1:], byStamp(1, 2)}, byStamp(1, 2)},
			{[]any{byStamp(1, 2), append(packed(c, byStamp(9, 9)), 0), zeros(c)}, byStamp(1, 2)},
			{[]any{[]byte{}, []byte("junk")}, api.Block{}},
		} {
			mustBeNewestBlock(t, c, of(c, k, x.disks...), k, x.want)
		}
	}
}

// The order of the images says which of alike ones it is.
func TestP1904FirstImage(t *testing.T) {
	c, k := three(), blockAt(0)
	one, two, three := image(c, 1, records{k: written(7, 4, 1, 1, 1)}), image(c, 2, records{k: written(7, 4, 2, 2, 2)}), image(c, 3, records{k: written(6, 4, 3, 3, 3)})
	mustBeNewestBlock(t, c, []api.Image{one, two, three}, k, written(7, 4, 1, 1, 1))
	mustBeNewestBlock(t, c, []api.Image{three, two, one}, k, written(7, 4, 2, 2, 2))
	mustBeNewestBlock(t, c, []api.Image{two, three, one}, k, written(7, 4, 2, 2, 2))
	mustBeNewestBlock(t, c, []api.Image{three}, k, written(6, 4, 3, 3, 3))
	mustBeNewestBlock(t, c, []api.Image{one, two, three}, blockAt(1), api.Block{})
}

// A server that does not stand in the block's group holds none of it.
func TestP1904BlockOfStrangers(t *testing.T) {
	c, k := wide(), blockAt(0)
	group := groupOf(c, k)
	l := []api.Image{image(c, stranger(c, group), records{k: written(9, 9, 9, 9)}), image(c, group[2], records{k: written(1, 1, 1, 1)})}
	mustBeNewestBlock(t, c, l, k, written(1, 1, 1, 1))
	mustBeNewestBlock(t, c, l[:1], k, api.Block{})
}
