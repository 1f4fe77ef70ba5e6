package server_test

import (
	"math"
	"slices"
	"testing"

	"cairn/api"
	"cairn/bucket"
	"cairn/disk"
	"cairn/server"
)

// row is a server that holds of bucket 1 what the letters say, from instance 1 on: D decided, a accepted, p promised, a point none.
func row(t *testing.T, letters string) (*server.Server, *disk.Disk) {
	t.Helper()
	s, d := fresh(t, 100)
	for i, letter := range letters {
		n := i + 1
		switch letter {
		case 'D':
			mustDo(t, s, three(), learned(at(n), command(n)))
		case 'a':
			mustDo(t, s, three(), accept(at(n), stamp(3, 4), command(n)))
		case 'p':
			mustDo(t, s, three(), prepare(at(n), stamp(3, 4)))
		}
	}
	return s, d
}

// Up to 0, below, at and above what may be trimmed; over a gap, over instances that are not decided.
func TestP1306Upto(t *testing.T) {
	for _, x := range []struct {
		letters    string
		upto, want int
	}{
		{"", 0, 0}, {"", 9, 0}, {"", math.MaxInt, 0}, {"D", 0, 0}, {"D", 1, 1}, {"D", 2, 1}, {"D", math.MaxInt, 1},
		{"DDDD", 0, 0}, {"DDDD", 1, 1}, {"DDDD", 3, 3}, {"DDDD", 4, 4}, {"DDDD", 5, 4}, {"DDDD", last, 4}, {"DDDD", last + 1, 4},
		{".D", 1, 0}, {".D", 2, 0}, {".D", 9, 0}, {"D.D", 1, 1}, {"D.D", 2, 1}, {"D.D", 3, 1}, {"DD.DD", 9, 2},
		{"a", 1, 0}, {"p", 1, 0}, {"aD", 2, 0}, {"pD", 2, 0}, {"DaD", 1, 1}, {"DaD", 2, 1}, {"DaD", 3, 1}, {"DpD", 3, 1}, {"DDa", 9, 2}, {"DDp", 9, 2},
	} {
		s, d := row(t, x.letters)
		held := map[int]api.Instance{}
		for n := 1; n <= 9; n++ {
			held[n] = s.Instance(at(n))
		}
		mustWrite(t, d, x.want > 0, func() { mustTrim(t, s, x.upto, x.want) })
		if b := s.Bucket(number); !same(b, replayed(t, x.want, 2)) {
			t.Fatalf("%s: Trim(.., %d): %+v", x.letters, x.upto, b)
		}
		var keys []api.Key
		if x.want > 0 {
			keys = append(keys, dir)
		}
		for n := 1; n <= 9; n++ {
			if n <= x.want {
				held[n] = clear
			}
			if i := s.Instance(at(n)); i != held[n] {
				t.Fatalf("%s: Trim(.., %d): instance %d: %+v", x.letters, x.upto, n, i)
			}
			if held[n] != clear {
				keys = append(keys, at(n))
			}
		}
		if got := slices.Collect(s.Keys()); !slices.Equal(got, keys) || !slices.Equal(lying(t, d), keys) {
			t.Fatalf("%s: Trim(.., %d): it holds %v, there lie %v, not %v", x.letters, x.upto, got, lying(t, d), keys)
		}
		mustLast(t, s, three(), d)
		mustWrite(t, d, false, func() { mustTrim(t, s, x.upto, x.want) })
	}
}

// Once more: below, at and above Upto.
func TestP1306Again(t *testing.T) {
	s, d := row(t, "DDDDDD.D")
	mustWrite(t, d, true, func() { mustTrim(t, s, 3, 3) })
	for _, upto := range []int{0, 1, 2, 3} {
		mustWrite(t, d, false, func() { mustTrim(t, s, upto, 3) })
	}
	mustWrite(t, d, true, func() { mustTrim(t, s, 4, 4) })
	mustWrite(t, d, true, func() { mustTrim(t, s, 9, 6) })
	if b := s.Bucket(number); !same(b, replayed(t, 6, 2)) {
		t.Errorf("%+v", b)
	}
	mustDo(t, s, three(), learned(at(7), command(7)))
	mustWrite(t, d, true, func() { mustTrim(t, s, 9, 8) })
	if b := s.Bucket(number); !same(b, replayed(t, 8, 2)) {
		t.Errorf("%+v", b)
	}
	mustLast(t, s, three(), d)
}

// The room of a bucket is the configuration's.
func TestP1306Room(t *testing.T) {
	for room := 1; room <= 4; room++ {
		c := three()
		c.Room = room
		s := started(t, c, newDisk(t, 200))
		for n := range 4 {
			mustDo(t, s, c, learned(at(n+1), api.Command{Kind: api.CCreate, Client: 4, Op: n + 1, Name: string(rune('a' + n))}))
		}
		mustTrim(t, s, 9, 4)
		b := s.Bucket(number)
		if l, _ := bucket.Last(b, 4); len(b.Entries) != room || (l.Err == api.ErrRoom) != (room < 4) {
			t.Errorf("room %d: %+v", room, b)
		}
	}
}

// At the last instance that there is.
func TestP1306LastInstance(t *testing.T) {
	for _, upto := range []int{last - 1, last, last + 1, math.MaxInt} {
		s, d := fresh(t, 80)
		mustDo(t, s, three(), haveBucket(brought(last-2), false), learned(at(last-1), command(1)), learned(at(last), command(2)))
		want := min(upto, last)
		mustTrim(t, s, upto, want)
		if s.Bucket(number).Upto != want || (s.Instance(at(last)) == clear) != (want == last) {
			t.Errorf("Trim(.., %d)", upto)
		}
		mustTrim(t, s, math.MaxInt, last)
		mustMend(t, s, three(), 3, dir, last+1)
		mustLast(t, s, three(), d)
	}
}

// A bucket that a mend has brought is trimmed on from there.
func TestP1306BehindABroughtOne(t *testing.T) {
	s, d := fresh(t, 80)
	mustDo(t, s, three(), haveBucket(brought(5), false), learned(at(7), command(7)))
	mustWrite(t, d, false, func() { mustTrim(t, s, 9, 5) })
	mustDo(t, s, three(), learned(at(6), command(6)))
	mustTrim(t, s, 9, 7)
	want, _, _ := bucket.Replay(brought(5), 2, command(6), command(7))
	if b := s.Bucket(number); !same(b, want) {
		t.Errorf("%+v, not %+v", b, want)
	}
	mustLast(t, s, three(), d)
}

// What lies there still of forgotten instances is dropped, whatever is to be trimmed; in other buckets nothing is.
func TestP1306DropsWhatLiesThereStill(t *testing.T) {
	for records := 1; records <= 4; records++ {
		for _, upto := range []int{0, 1, 3, 4, 5, 9} {
			s, d := half(t, records)
			away := api.Key{Kind: api.KInstance, A: 0, B: 2}
			mustDo(t, s, three(), learned(away, command(2)))
			want, keys := 4, []api.Key{dir, away, at(5)}
			if upto >= 5 {
				want, keys = 5, keys[:2]
			}
			mustWrite(t, d, true, func() { mustTrim(t, s, upto, want) })
			if got := lying(t, d); !slices.Equal(got, keys) {
				t.Fatalf("there lie %v, not %v", got, keys)
			}
			mustLast(t, s, three(), d)
		}
	}
}

// Several buckets are each trimmed alone.
func TestP1306BucketsApart(t *testing.T) {
	s, d := row(t, "DD")
	for n := 1; n <= 3; n++ {
		mustDo(t, s, three(), learned(api.Key{Kind: api.KInstance, A: 0, B: n}, command(n)))
	}
	if got, err := s.Trim(0, 2); got != 2 || err != api.OK {
		t.Fatalf("%d, %v", got, err)
	}
	if s.Bucket(1).Upto != 0 || s.Instance(at(1)) != decided(1) || !same(s.Bucket(0), replayed(t, 2, 2)) {
		t.Error("the other bucket")
	}
	mustTrim(t, s, 9, 2)
	if s.Bucket(0).Upto != 2 || s.Instance(api.Key{Kind: api.KInstance, A: 0, B: 3}) != decided(3) {
		t.Error("the other bucket")
	}
	mustLast(t, s, three(), d)
}

func TestP1306Refused(t *testing.T) {
	s, d := row(t, "DD")
	was := view(s, three())
	mustWrite(t, d, false, func() {
		for _, number := range []int{math.MinInt, -1, 2, 3, 255, 256, math.MaxInt} {
			for _, upto := range []int{math.MinInt, -1, 0, 1, 9} {
				mustRefuseTrim(t, s, number, upto, api.ErrBucket)
			}
		}
		for _, upto := range []int{math.MinInt, -2, -1} {
			mustRefuseTrim(t, s, 0, upto, api.ErrArg)
			mustRefuseTrim(t, s, 1, upto, api.ErrArg)
		}
	})
	if view(s, three()) != was {
		t.Error("it holds something else")
	}
}

// Of a bucket that is none of its own: 0.
func TestP1306Foreign(t *testing.T) {
	c := seven()
	_, k, _ := of(t, c, false)
	d := newDisk(t, 80)
	s := started(t, c, d)
	for _, upto := range []int{0, 1, math.MaxInt} {
		mustWrite(t, d, false, func() {
			if got, err := s.Trim(k.A, upto); got != 0 || err != api.OK {
				t.Fatalf("%d, %v", got, err)
			}
		})
	}
	if _, err := s.Trim(k.A, -1); err != api.ErrArg {
		t.Errorf("%v", err)
	}
}
