package file_test

import (
	"fmt"
	"math"
	"testing"

	"cairn/api"
	"cairn/file"
)

// everyOp has all composite operations on "oar" up to a bound, and one to "peg".
func everyOp(upto int, do func(api.Op)) {
	for at := range upto + 1 {
		for n := range upto + 1 {
			do(readAt("oar", at, n))
			data := make([]byte, n)
			for i := range data {
				data[i] = byte(100 + i)
			}
			do(writeAt("oar", at, data...))
		}
		do(truncate("oar", at))
	}
	do(copyTo("oar", "peg"))
	do(copyTo("oar", "oar"))
}

// Parts of every kind, size, place and length about the edges of blocks, held against the parts that the words ask for.
func TestP1505PartsInWords(t *testing.T) {
	for _, block := range []int{1, 2, 3, 4, 7} {
		upto := 3*block + 2
		for size := range upto + 1 {
			e := entry("oar", oar, size)
			everyOp(upto, func(o api.Op) {
				if got, want := file.Parts(o, e, block), partsInWords(o, e, block); got != want {
					t.Fatalf("Parts(%+v, %d, %d): %d, not %d", o, size, block, got, want)
				}
			})
		}
	}
	for _, o := range append(atomics(small()), api.Op{}, api.Op{Kind: 14}, api.Op{Kind: -1, Name: "oar", At: 3, N: 9}) {
		for size := range 9 {
			if n := file.Parts(o, entry("oar", oar, size), 4); n != 0 {
				t.Errorf("Parts(%+v): %d", o, n)
			}
		}
	}
}

// At the greatest sizes nothing is counted one by one.
func TestP1505PartsAtTheEnds(t *testing.T) {
	for _, block := range []int{1, 4, 4096} {
		most := 1 << 20 * block
		e := entry("oar", oar, most)
		for _, x := range []struct {
			o    api.Op
			want int
		}{
			{readAt("oar", 0, most), 1 << 20}, {readAt("oar", most, 0), 0}, {readAt("oar", most-1, 1), 1}, {readAt("oar", block-1, most-block+1), 1 << 20},
			{truncate("oar", 0), 1<<20 + 1}, {truncate("oar", most), 0}, {truncate("oar", block), 1 << 20},
			{copyTo("oar", "peg"), 2<<20 + 2}, {writeAt("oar", most-block, make([]byte, block)...), 1}, {writeAt("oar", most), 0},
		} {
			if got := file.Parts(x.o, e, block); got != x.want {
				t.Errorf("Parts(%+v, %d, %d): %d, not %d", x.o, e.Size, block, got, x.want)
			}
		}
		if block > 1 {
			if got := file.Parts(truncate("oar", 1), e, block); got != 1<<20+2 {
				t.Errorf("Parts: %d", got)
			}
		}
		if got := file.Parts(truncate("oar", most), entry("oar", oar, 0), block); got != 1 {
			t.Errorf("Parts: %d", got)
		}
	}
}

// What may not be is counted somehow: each call ends.
func TestP1505PartsOfWhatMayNotBe(t *testing.T) {
	wild := []int{math.MinInt, math.MinInt + 1, -1 << 40, -5, -1, 0, 1, 4, 1 << 40, math.MaxInt - 1, math.MaxInt}
	for _, block := range wild {
		for _, size := range wild {
			for _, at := range wild {
				for _, n := range wild {
					for kind := api.OReadAt; kind <= api.OCopy; kind++ {
						file.Parts(api.Op{Kind: kind, Name: "oar", Other: "peg", At: at, N: n, Data: []byte{1, 2, 3}}, entry("", fileOf(-1, 0), size), block)
					}
				}
			}
		}
	}
}

// The Model, for every file of a few sizes and every operation about its edges, with what it leaves.
func TestP1508EveryEdge(t *testing.T) {
	t.Parallel()
	for _, block := range []int{1, 3, 4} {
		c := small()
		c.Block = block
		upto := 2*block + 2
		for size := range upto + 1 {
			begin := func(s store) {
				s.Do(me, 1, create("oar"))
				data := make([]byte, size)
				for i := range data {
					data[i] = byte(i + 1)
				}
				s.Do(me, 2, writeAt("oar", 0, data...))
			}
			everyOp(upto, func(o api.Op) {
				m, want := model(t, c), newStore(c, "")
				begin(m)
				begin(want)
				if a, b := m.Do(me, 50, o), want.Do(me, 50, o); !sameResult(a, b) {
					t.Fatalf("Block %d, size %d: %+v: %+v, not %+v", block, size, o, a, b)
				}
				for i := range 5 {
					for _, f := range []api.File{oar, fileOf(me, 51)} {
						if a, b := m.Do(1, 1, read(f, i)), want.Do(1, 1, read(f, i)); !sameResult(a, b) {
							t.Fatalf("Block %d, size %d: behind %+v, %v %d: %+v, not %+v", block, size, o, f, i, a, b)
						}
					}
				}
			})
		}
	}
}

// A user over servers, for every file of a few sizes and the operations about its edges: as the words, call by call, and as the Model.
func TestP1504EveryEdge(t *testing.T) {
	t.Parallel()
	for _, c := range []api.Config{small(), least()} {
		for _, size := range []int{0, 1, c.Block - 1, c.Block, c.Block + 1, 2 * c.Block, 2*c.Block + 1} {
			t.Run(fmt.Sprint("Block ", c.Block, ", size ", size), func(t *testing.T) {
				t.Parallel()
				places := []int{0, 1, c.Block - 1, c.Block, c.Block + 1, 2*c.Block - 1, 2 * c.Block, 2*c.Block + 1, 3 * c.Block}
				var all []api.Op
				for _, at := range places {
					for _, n := range places {
						all = append(all, readAt("oar", at, n), writeAt("oar", at, randomly(int64(n)).bytes(n)...))
					}
					all = append(all, truncate("oar", at))
				}
				all = append(all, readAt("oar", 0, 1<<20*c.Block), readAt("oar", 1<<20*c.Block, 0), readAt("oar", 1<<20*c.Block-1, 1), writeAt("oar", 1<<20*c.Block),
					copyTo("oar", "peg"), copyTo("oar", "oar"), copyTo("none", "peg"))
				for _, o := range all {
					s := newHall(t, c).twins(t, me, "")
					m, number := model(t, c), 1
					for _, x := range []api.Op{create("oar"), writeAt("oar", 0, randomly(9).bytes(size)...), o, readAt("oar", 0, 9*c.Block)} {
						want := m.Do(me, number, x)
						if r := s.run(t, x); !sameAnswer(r, want) {
							t.Fatalf("%+v: %+v, not %+v", x, r, want)
						}
						number = s.client.Number() + 1
						mustAgree(t, s)
					}
				}
			})
		}
	}
}

// At the greatest size: the last block of all may be written and read.
func TestP1504TheLastBlock(t *testing.T) {
	for _, c := range []api.Config{small(), least(), greatest()} {
		s := newHall(t, c).twins(t, me, "")
		most := 1 << 20 * c.Block
		m := model(t, c)
		for _, o := range []api.Op{create("oar"), writeAt("oar", most-1, 9), readAt("oar", most-1, 1), readAt("oar", most, 0), writeAt("oar", most), truncate("oar", most), truncate("oar", most-1), truncate("oar", most), readAt("oar", most-1, 1)} {
			want := m.Do(me, s.client.Number()+1, o)
			if r := s.run(t, o); !sameAnswer(r, want) || r.Err != api.OK {
				t.Fatalf("%+v: %+v, not %+v", o, r, want)
			}
			mustAgree(t, s)
		}
	}
}

// So many parts that no part may wait on a stack for the others: the Model makes a file of all blocks empty.
func TestP1508AllBlocks(t *testing.T) {
	t.Parallel()
	c := least()
	c.Room = 2
	const most = 1 << 20
	m := model(t, c)
	m.Do(me, 1, create("oar"))
	m.Do(me, 2, writeAt("oar", most-2, 8, 9))
	m.Do(me, 9, writeAt("oar", 3, 1, 2, 3))
	if r := m.Do(me, 20, copyTo("oar", "peg")); r.Err != api.OK || r.Entry != entry("peg", fileOf(me, 21), most) {
		t.Fatalf("%+v", r)
	}
	if r := m.Do(me, 1<<30, truncate("oar", 1)); r.Err != api.OK || r.Entry != entry("oar", oar, 1) {
		t.Fatalf("%+v", r)
	}
	r := m.Do(1, 1, readAt("peg", 0, most))
	if len(r.Data) != most || r.Data[3] != 1 || r.Data[5] != 3 || r.Data[most-1] != 9 || r.Data[6] != 0 {
		t.Errorf("%d bytes", len(r.Data))
	}
	m.Do(1, 1, truncate("oar", most))
	r = m.Do(1, 1, readAt("oar", 0, most))
	for i, b := range r.Data {
		if b != 0 {
			t.Fatalf("%d at %d", b, i)
		}
	}
}
