package server_test

import (
	"slices"
	"testing"

	"cairn/api"
	"cairn/disk"
	"cairn/server"
)

// cramped is a server with so many sectors behind what was done first: by its disk, or by a Limit.
func cramped(t *testing.T, sectors int, limit bool, first ...api.Msg) (*server.Server, *disk.Disk) {
	t.Helper()
	size := max(sectors, 1) // no disk has none
	if limit {
		size = 200
	}
	s, d := fresh(t, size)
	mustDo(t, s, three(), first...)
	if limit {
		s.Limit(sectors)
	}
	return s, d
}

// Just room, and one sector less, with a Limit and without: of each kind of record.
func TestP1304JustRoom(t *testing.T) {
	for _, x := range []struct {
		name  string
		taken int // by what is done first
		first []api.Msg
		need  int
		step  api.Msg
		want  api.Msg
	}{
		{"a block", 0, nil, 2, put(block(0), stamp(1, 1), "abc"), ack()},
		{"a block of two", 2, []api.Msg{put(block(0), stamp(1, 1), "abc")}, 2, put(block(1), stamp(1, 1), "abc"), ack()},
		{"a promise", 0, nil, 2, prepare(at(1), stamp(1, 1)), promise(stamp(1, 1), api.Stamp{}, zero)},
		{"an acceptance", 2, []api.Msg{put(block(0), stamp(1, 1), "abc")}, 2, accept(at(1), stamp(1, 1), other(1)), accepted(stamp(1, 1))},
		{"a block that is brought", 2, []api.Msg{learned(at(1), command(1))}, 2, haveBlock(block(0), stamp(1, 1), "abc"), api.Msg{}},
		{"a decision", 0, nil, 2, learned(at(1), command(1)), api.Msg{}},
		{"three decisions", 2, []api.Msg{learned(at(9), command(9))}, 6, have(1, true, commands(1, 3)...), api.Msg{Kind: api.MAsk, Stamp: stamp(4, 0)}},
		{"two new ones of four", 4, []api.Msg{prepare(at(1), stamp(1, 1)), learned(at(3), command(3))}, 4, have(1, true, commands(1, 4)...), api.Msg{Kind: api.MAsk, Stamp: stamp(5, 0)}},
		{"a bucket that is brought", 0, nil, 32, haveBucket(brought(3), true), api.Msg{Kind: api.MAsk, Stamp: stamp(4, 0)}},
		// what it drops does not count: there must be room ahead of that
		{"a bucket that forgets", 4, []api.Msg{learned(at(1), command(1)), learned(at(2), command(2))}, 32, haveBucket(brought(3), true), api.Msg{Kind: api.MAsk, Stamp: stamp(4, 0)}},
	} {
		for _, limit := range []bool{false, true} {
			t.Run(x.name, func(t *testing.T) {
				for less := 1; less <= x.need; less++ {
					s, d := cramped(t, x.taken+x.need-less, limit, x.first...)
					mustNone(t, s, d, x.step, api.Msg{})
					if s.Fallen() {
						t.Fatal("no room is no fall")
					}
					mustLast(t, s, three(), d)
				}
				s, d := cramped(t, x.taken+x.need, limit, x.first...)
				mustRecord(t, s, d, x.step, x.want)
				// all is taken now
				if !limit && x.step.Kind != api.MHave {
					mustNone(t, s, d, put(block(7), stamp(1, 1), "abc"), api.Msg{})
				}
			})
		}
	}
}

// What takes the place of a record needs no room, also where more is taken than there is.
func TestP1304ReplacingNeedsNone(t *testing.T) {
	for _, limit := range []int{-5, 0, 1, 4, 38} {
		s, d := fresh(t, 200)
		mustDo(t, s, three(), put(block(0), stamp(1, 1), "abc"), prepare(at(4), stamp(1, 1)), haveBucket(brought(3), false), learned(at(5), command(5)))
		s.Limit(limit)
		mustRecord(t, s, d, put(block(0), stamp(2, 1), "new"), ack())
		mustRecord(t, s, d, haveBlock(block(0), stamp(3, 1), "two"), api.Msg{})
		mustRecord(t, s, d, prepare(at(4), stamp(2, 1)), promise(stamp(2, 1), api.Stamp{}, zero))
		mustRecord(t, s, d, accept(at(4), stamp(2, 1), other(4)), accepted(stamp(2, 1)))
		mustRecord(t, s, d, have(4, false, command(4)), api.Msg{})
		mustRecord(t, s, d, haveBucket(brought(6), false), api.Msg{})
		mustNone(t, s, d, query(block(0)), value(stamp(3, 1), "two"))
		if limit <= 34 {
			mustNone(t, s, d, put(block(1), stamp(1, 1), "abc"), api.Msg{})
		}
	}
}

// A step that needs no room is answered where there is none.
func TestP1304AnswersWithoutRoom(t *testing.T) {
	s, d := cramped(t, 0, true)
	mustNone(t, s, d, query(block(0)), blank())
	mustNone(t, s, d, ask(block(0), 0), api.Msg{Kind: api.MHave})
	mustNone(t, s, d, ask(dir, 1), api.Msg{Kind: api.MHave, Stamp: stamp(1, 0)})
	mustNone(t, s, d, have(1, true, zero), api.Msg{Kind: api.MAsk, Stamp: stamp(2, 0)})
	mustMend(t, s, three(), 3, dir, 1)
	mustTrim(t, s, 5, 0)
}

// A later Limit takes the place of an elder one; one above the disk is none; a server that is started has none.
func TestP1304Limits(t *testing.T) {
	s, d := fresh(t, 8)
	s.Limit(2)
	mustRecord(t, s, d, put(block(0), stamp(1, 1), "abc"), ack())
	mustNone(t, s, d, put(block(1), stamp(1, 1), "abc"), api.Msg{})
	s.Limit(4)
	mustRecord(t, s, d, put(block(1), stamp(1, 1), "abc"), ack())
	mustNone(t, s, d, put(block(2), stamp(1, 1), "abc"), api.Msg{})
	s.Limit(3)
	s.Limit(1 << 40)
	mustRecord(t, s, d, put(block(2), stamp(1, 1), "abc"), ack())
	s.Limit(0)
	mustNone(t, s, d, put(block(3), stamp(1, 1), "abc"), api.Msg{})
	s = started(t, three(), d)
	mustRecord(t, s, d, put(block(3), stamp(1, 1), "abc"), ack())
	mustNone(t, s, d, put(block(4), stamp(1, 1), "abc"), api.Msg{})
}

// What is dropped makes room; also what a fall left of forgotten instances takes it till then.
func TestP1304DroppedMakesRoom(t *testing.T) {
	s, d := fresh(t, 42)
	mustDo(t, s, three(), have(1, false, commands(1, 5)...))
	s.Arm(2)
	mustRefuseTrim(t, s, number, 4, api.ErrFallen)
	s = started(t, three(), d)
	// the bucket, and instances 2 to 5
	mustRecord(t, s, d, put(block(0), stamp(1, 1), "abc"), ack())
	mustNone(t, s, d, put(block(1), stamp(1, 1), "abc"), api.Msg{})
	mustWrite(t, d, true, func() { mustTrim(t, s, 0, 4) })
	for n := 1; n <= 3; n++ {
		mustRecord(t, s, d, put(block(n), stamp(1, 1), "abc"), ack())
	}
	mustNone(t, s, d, put(block(4), stamp(1, 1), "abc"), api.Msg{})
}

func TestP1306NoRoom(t *testing.T) {
	for _, limit := range []bool{false, true} {
		for less := 1; less <= 33; less++ {
			s, d := cramped(t, 6+32-less, limit, have(1, false, commands(1, 3)[:min(3, (6+32-less)/2)]...))
			was := view(s, three())
			mustWrite(t, d, false, func() {
				mustRefuseTrim(t, s, number, 9, api.ErrFull)
				mustRefuseTrim(t, s, number, 1, api.ErrFull)
			})
			if view(s, three()) != was || s.Fallen() {
				t.Fatal("something happened")
			}
			mustWrite(t, d, false, func() { mustTrim(t, s, 0, 0) })
		}
		s, d := cramped(t, 6+32, limit, have(1, false, commands(1, 3)...))
		mustWrite(t, d, true, func() { mustTrim(t, s, 2, 2) })
		// a bucket in the place of one needs no room
		s.Limit(0)
		mustWrite(t, d, true, func() { mustTrim(t, s, 3, 3) })
		mustLast(t, s, three(), d)
	}
}

// The dropping of what is forgotten needs no room.
func TestP1306DropsWithoutRoom(t *testing.T) {
	s, d := half(t, 1)
	s.Limit(0)
	mustWrite(t, d, true, func() { mustTrim(t, s, 0, 4) })
	if got := lying(t, d); !slices.Equal(got, []api.Key{dir, at(5)}) {
		t.Errorf("there lie %v", got)
	}
}
