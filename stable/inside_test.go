package stable

import (
	"bytes"
	"slices"
	"testing"

	"cairn/api"
	"cairn/disk"
)

// Whatever stands at the two ends, the mark is unlike both, and one of three.
func TestP409MarkUnlikeBoth(t *testing.T) {
	there := make([]byte, api.Sector)
	for a := range 256 {
		for b := range 256 {
			there[0], there[last] = byte(a), byte(b)
			if m := unlike(there); m == byte(a) || m == byte(b) || m < 1 || m > 3 {
				t.Fatalf("where %d and %d stand: %d", a, b, m)
			}
		}
	}
}

// Of all torn mixtures of two sectors none is a piece but the two themselves.
func TestP409TornIsNoPiece(t *testing.T) {
	most := Most{0, api.MaxBytes, api.MaxBytes, api.MaxBytes}
	p := piece{name{api.Key{Kind: api.KBlock, A: 1, B: 2, C: 3}, 4, 500}, 1}
	was := filled(p, bytes.Repeat([]byte{1}, payload), 1)
	p.version++
	now := filled(p, bytes.Repeat([]byte{1}, payload), unlike(was))
	for torn := 1; torn < api.Sector; torn++ {
		mixed := slices.Concat(now[:torn], was[torn:])
		if got, ok := pieceOf(mixed, most); ok || got != (piece{}) {
			t.Fatalf("torn at %d: %v", torn, got)
		}
		// And torn again by a third, which stands ahead of both.
		next := filled(p, nil, unlike(mixed))
		for again := 1; again < api.Sector; again += 7 {
			if _, ok := pieceOf(slices.Concat(next[:again], mixed[again:]), most); ok {
				t.Fatalf("torn at %d, then at %d: a piece", torn, again)
			}
		}
	}
}

func TestP408PieceAsBytes(t *testing.T) {
	most := Most{0, api.MaxBytes, api.MaxBytes, api.MaxBytes}
	for _, p := range []piece{
		{name{api.Key{Kind: 1, A: 1, B: 1, C: 0}, 1, 0}, 0},
		{name{api.Key{Kind: 1, A: 255, B: 1 << 40, C: 1<<20 - 1}, 1<<63 - 1, api.MaxBytes}, 292},
		{name{api.Key{Kind: 2, A: 255}, 1 << 32, 448}, 0},
		{name{api.Key{Kind: 3, A: 0, B: 1 << 20}, 255, 449}, 1},
	} {
		part := bytes.Repeat([]byte{9}, payload)
		b := filled(p, part, 2)
		if len(b) != api.Sector || b[0] != 2 || b[last] != 2 || !bytes.Equal(b[front:front+payload], part) {
			t.Errorf("%v: not as a sector is", p)
		}
		if got, ok := pieceOf(b, most); !ok || got != p {
			t.Errorf("%v is read as %v, %v", p, got, ok)
		}
	}
	for _, p := range []piece{
		{},
		{name{api.Key{Kind: 4, A: 1, B: 1}, 1, 0}, 0},
		{name{api.Key{Kind: 1, A: 0, B: 1}, 1, 0}, 0},
		{name{api.Key{Kind: 2, A: 1}, 1, -1}, 0},
		{name{api.Key{Kind: 2, A: 1}, 1, api.MaxBytes + 1}, 0},
		{name{api.Key{Kind: 2, A: 1}, 1, 448}, 1},
		{name{api.Key{Kind: 2, A: 1}, 1, 449}, 2},
		{name{api.Key{Kind: 2, A: 1}, 1, 448}, -1},
	} {
		if got, ok := pieceOf(filled(p, nil, 1), most); ok {
			t.Errorf("%v is read as %v", p, got)
		}
	}
}

// A disk that no row of Stores leaves, with many whole records of one key, is used alike each time.
func TestP3WhateverLiesThere(t *testing.T) {
	most := Most{0, 448, 448, 448}
	k := api.Key{Kind: api.KBucket, A: 5}
	var image, first []byte
	for version := range 6 {
		image = append(image, filled(piece{name{k, version, 1}, 0}, []byte{byte(version)}, 1)...)
	}
	for range 40 {
		d, _ := disk.Load(image)
		s, _ := Open(d, most)
		if b, ok := s.Get(k); !ok || !bytes.Equal(b, []byte{5}) || len(s.outdone) != 5 {
			t.Fatalf("%v, %v; outdone: %v", b, ok, s.outdone)
		}
		s.Put(api.Key{Kind: api.KBucket, A: 6}, nil)
		if s.Put(k, nil); first == nil {
			first = d.Image()
		}
		if !bytes.Equal(first, d.Image()) {
			t.Fatal("the same calls leave other bytes")
		}
	}
}

// Each sector is either needed by one record, or outdone, or free; at most one is outdone, whatever fell.
func TestP410EverySectorOnce(t *testing.T) {
	most := Most{0, 448, 896, 1344}
	keys := []api.Key{{Kind: 1, A: 1, B: 1}, {Kind: 2}, {Kind: 3, B: 1}, {Kind: 1, A: 1, B: 2}}
	seed := uint64(1)
	below := func(n int) int {
		seed = seed*6364136223846793005 + 1442695040888963407
		return int(seed>>33) % n
	}
	for range 50 {
		d, _ := disk.New(14)
		s, _ := Open(d, most)
		for range 100 {
			k := keys[below(len(keys))]
			if below(3) == 0 {
				d.Arm(below(4), below(513))
			}
			err := api.OK
			if below(4) == 0 {
				err = s.Drop(k)
			} else {
				err = s.Put(k, make([]byte, below(most[k.Kind]+1)))
			}
			if err == api.ErrFallen {
				d.Start()
				s, _ = Open(d, most)
			}
			all := slices.Concat(s.free, s.outdone)
			for _, e := range s.kept {
				all = append(all, e.at...)
			}
			slices.Sort(all)
			if len(all) != 14 || len(slices.Compact(all)) != 14 || all[0] != 0 || all[13] != 13 || len(s.outdone) > 1 {
				t.Fatalf("sectors %v, outdone %v", all, s.outdone)
			}
			checkAsFound(t, s, d)
		}
	}
}

// checkAsFound holds what a Store knows of the disk against what a look at it finds.
func checkAsFound(t *testing.T, s *Store, d *disk.Disk) {
	t.Helper()
	v := look(d, s.most)
	if v.taken != s.taken || len(v.kept) != len(s.kept) || v.next > s.next || !slices.Equal(v.outdone, s.outdone) {
		t.Fatalf("known: %d taken, %d records, next %d, outdone %v; found: %d, %d, %d, %v", s.taken, len(s.kept), s.next, s.outdone, v.taken, len(v.kept), v.next, v.outdone)
	}
	for k, e := range v.kept {
		if !bytes.Equal(s.kept[k].record, e.record) || !slices.Equal(s.kept[k].at, e.at) {
			t.Fatalf("%v lies elsewhere", k)
		}
	}
}
