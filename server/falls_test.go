package server_test

import (
	"slices"
	"strings"
	"testing"

	"cairn/api"
)

// A fall at each write of a step's disk, torn at each byte: the server that is started holds what was held behind some number of the step's records.
func TestP1309TornAtEachByte(t *testing.T) {
	for _, x := range steps() {
		t.Run(x.name, func(t *testing.T) {
			t.Parallel()
			states := x.states(t, 60)
			s, d := x.ready(t, 60)
			image, was := d.Image(), d.Counts().Writes
			x.do(t, s)
			writes := d.Counts().Writes - was
			if (writes > 0) != (x.records > 0) {
				t.Fatalf("%d writes of %d records", writes, x.records)
			}
			for n := range writes {
				for torn := range api.Sector + 1 {
					fall(t, x, states, image, n, torn)
				}
				s, d := x.ready(t, 60)
				d.Arm(n, 9)
				x.do(t, s)
				mustBeDown(t, s, d)
			}
			// armed behind its last write, it does not fall
			d = loaded(t, image)
			s = started(t, three(), d)
			d.Arm(writes, 0)
			x.do(t, s)
			if s.Fallen() || view(s, three()) != states[x.records] {
				t.Fatal("it has fallen ahead of time")
			}
		})
	}
}

func fall(t *testing.T, x step, states []string, image []byte, writes, torn int) {
	t.Helper()
	d := loaded(t, image)
	s := started(t, three(), d)
	d.Arm(writes, torn)
	if err := x.do(t, s); err != api.ErrFallen {
		t.Fatalf("fallen at write %d, torn at %d: %v", writes, torn, err)
	}
	if !d.Fallen() {
		t.Fatal("the disk has not fallen")
	}
	if !s.Fallen() {
		t.Fatal("it has not fallen with its disk")
	}
	d.Start()
	again := started(t, three(), d)
	got := view(again, three())
	if !slices.Contains(states, got) {
		t.Fatalf("fallen at write %d, torn at %d, it holds\n%s\nwhich is behind no number of records of\n%s", writes, torn, got, strings.Join(states, "\n"))
	}
	x.do(t, again)
	if view(again, three()) != states[x.records] {
		t.Fatalf("fallen at write %d, torn at %d, and done again, it holds\n%s\nnot\n%s", writes, torn, view(again, three()), states[x.records])
	}
	if reopened(t, three(), d) != states[x.records] {
		t.Fatal("and started once more it holds something else")
	}
}

// A step falls behind whichever comes first: a record of its arm, or a write of its disk.
func TestP1305BothArmed(t *testing.T) {
	x := stepOf(t, "MHave, a bucket")
	states := x.states(t, 60)
	for records := range x.records + 2 {
		for writes := range 12 {
			s, d := x.ready(t, 60)
			s.Arm(records)
			d.Arm(writes, 7)
			if err := x.do(t, s); err != api.ErrFallen || !s.Fallen() {
				t.Fatalf("%v", err)
			}
			d.Start()
			got := slices.Index(states, reopened(t, three(), d))
			if got < 0 || got > records || writes == 0 && got != 0 {
				t.Fatalf("Arm(%d), and %d writes of the disk: behind %d records", records, writes, got)
			}
		}
	}
}

// A step that writes nothing does not fall with a disk that is armed.
func TestP1305NoWriteNoFall(t *testing.T) {
	for _, x := range steps() {
		if x.records > 0 {
			continue
		}
		s, d := x.ready(t, 60)
		d.Arm(0, 0)
		x.do(t, s)
		if s.Fallen() || d.Fallen() {
			t.Fatal(x.name)
		}
	}
	s, d := fresh(t, 60)
	d.Arm(0, 0)
	s.Limit(0)
	mustNothing(t, s, put(block(0), stamp(1, 1), "abc"))
	if s.Fallen() || d.Fallen() {
		t.Fatal("a step without room has written")
	}
}

// Records of many sectors: a bucket that is brought, one that is trimmed over it.
func TestP1309GreatRecords(t *testing.T) {
	t.Parallel()
	long := strings.Repeat("n", api.MaxName-1)
	great := func(upto int) api.Bucket {
		b := api.Bucket{Upto: upto}
		f := api.File{Client: upto, Op: upto}
		for _, front := range []string{"a", "b"} {
			b.Entries = append(b.Entries, api.Entry{Name: front + long, File: f, Size: 1})
		}
		for n := 1; n <= api.MaxId; n++ {
			b.Lasts = append(b.Lasts, api.Last{Client: n, Op: upto, Instance: upto, File: f, Size: 1})
		}
		return b
	}
	for _, x := range []step{
		{"brought", []api.Msg{learned(at(1), command(1)), haveBucket(great(3), false), accept(at(4), stamp(3, 4), other(4))}, func(t testing.TB, s machine) api.Errno {
			if len(tell(t, s, three(), haveBucket(great(5), true))) == 0 {
				return api.ErrFallen
			}
			return api.OK
		}, 2},
		{"trimmed", []api.Msg{haveBucket(great(3), false), learned(at(4), api.Command{Kind: api.CRemove, Client: 7, Op: 9, Name: "a" + long}), learned(at(5), command(5)), learned(at(7), command(7))}, func(t testing.TB, s machine) api.Errno {
			_, err := s.Trim(number, 5)
			return err
		}, 3},
	} {
		states := x.states(t, 80)
		s, d := x.ready(t, 80)
		image, was := d.Image(), d.Counts().Writes
		x.do(t, s)
		writes := d.Counts().Writes - was
		if writes < 6 {
			t.Fatalf("%s: %d writes: these are no great records", x.name, writes)
		}
		for n := range writes {
			for _, torn := range []int{0, 1, 2, 31, 32, 100, 255, 510, 511, 512} {
				fall(t, x, states, image, n, torn)
			}
		}
	}
}

// Falls one behind the other, without a whole step between.
func TestP1309FallsInARow(t *testing.T) {
	x := stepOf(t, "MHave, a bucket")
	states := x.states(t, 60)
	for _, torn := range []int{0, 3, 100, 511, 512} {
		for a := range 4 {
			for b := range 4 {
				s, d := x.ready(t, 60)
				at := 0
				for _, writes := range []int{a, b, a, b} {
					d.Arm(writes, torn)
					x.do(t, s)
					d.Start()
					s = started(t, three(), d)
					now := slices.Index(states[at:], view(s, three()))
					if now < 0 {
						t.Fatalf("behind falls at %d, %d writes, torn at %d, it holds\n%s", a, b, torn, view(s, three()))
					}
					at += now
				}
				x.do(t, s)
				if view(s, three()) != states[x.records] {
					t.Fatalf("behind falls at %d, %d writes, torn at %d, it ends with\n%s", a, b, torn, view(s, three()))
				}
			}
		}
	}
}

// A server that fell does nothing any more, also when its disk is there again, and while another one is up over it.
func TestP1305FallenStaysDown(t *testing.T) {
	s, d := row(t, "DD")
	d.Arm(0, 0)
	mustNothing(t, s, learned(at(3), command(3)))
	mustBeDown(t, s, d)
	d.Start()
	mustBeDown(t, s, d)
	again := started(t, three(), d)
	mustBeDown(t, s, d)
	mustRecord(t, again, d, learned(at(3), command(3)), api.Msg{})
	mustBeDown(t, s, d)
	mustLast(t, again, three(), d)
}

// What is laid down lies there ahead of any packet: the disk's image at the time of the answer has it.
func TestP1303LaidDownAheadOfThePacket(t *testing.T) {
	for _, x := range steps() {
		s, d := x.ready(t, 60)
		x.do(t, s)
		if got, want := reopened(t, three(), d), view(s, three()); got != want {
			t.Fatalf("%s: there lies\n%s\nof\n%s", x.name, got, want)
		}
	}
	// and a disk that falls at any write of the step sends none
	for _, x := range steps() {
		for writes := 0; ; writes++ {
			s, d := x.ready(t, 60)
			d.Arm(writes, 512)
			err := x.do(t, s)
			if !d.Fallen() {
				break
			}
			if err != api.ErrFallen || !s.Fallen() {
				t.Fatalf("%s: %v", x.name, err)
			}
		}
	}
}
