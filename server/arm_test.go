package server_test

import (
	"math"
	"slices"
	"testing"

	"cairn/api"
	"cairn/disk"
	"cairn/server"
)

// step is one step of a server, with what is done ahead of it and how many records it makes.
type step struct {
	name    string
	first   []api.Msg
	do      func(t testing.TB, s machine) api.Errno // what Trim and Mend answer; of a Step ErrFallen, if no packet comes
	records int
}

func steps() []step {
	message := func(m api.Msg) func(t testing.TB, s machine) api.Errno {
		return func(t testing.TB, s machine) api.Errno {
			if len(tell(t, s, three(), m)) == 0 {
				return api.ErrFallen
			}
			return api.OK
		}
	}
	trim := func(number, upto int) func(t testing.TB, s machine) api.Errno {
		return func(t testing.TB, s machine) api.Errno {
			got, err := s.Trim(number, upto)
			if err != api.OK && got != 0 {
				t.Fatalf("%d beside %v", got, err)
			}
			return err
		}
	}
	row := []api.Msg{put(block(0), stamp(1, 1), "abc"), learned(at(1), command(1)), learned(at(2), command(2)), learned(at(3), command(3)), accept(at(4), stamp(3, 4), other(4)), learned(at(6), command(6))}
	return []step{
		{"junk", row, func(t testing.TB, s machine) api.Errno {
			if len(s.Step([]byte("junk"))) != 0 {
				t.Fatal("junk is answered")
			}
			return api.ErrFallen
		}, 0},
		{"a message to another", row, func(t testing.TB, s machine) api.Errno {
			m := put(block(0), stamp(2, 1), "new")
			m.To = node(1)
			if len(tell(t, s, three(), m)) != 0 {
				t.Fatal("it is answered")
			}
			return api.ErrFallen
		}, 0},
		{"MQuery", row, message(query(block(0))), 0},
		{"MPut, old", row, message(put(block(0), stamp(1, 1), "new")), 0},
		{"MPut, new", row, message(put(block(0), stamp(2, 1), "new")), 1},
		{"MPut, first", row, message(put(block(1), stamp(2, 1), "new")), 1},
		{"MPrepare", row, message(prepare(at(4), stamp(9, 9))), 1},
		{"MPrepare, old", row, message(prepare(at(4), stamp(1, 1))), 0},
		{"MAccept", row, message(accept(at(5), stamp(9, 9), other(5))), 1},
		{"MAccept, known", row, message(accept(at(1), stamp(9, 9), other(1))), 0},
		{"MLearned", row, message(learned(at(4), command(4))), 1},
		{"MLearned, known", row, message(learned(at(1), command(1))), 0},
		{"MAsk", row, message(ask(dir, 1)), 0},
		{"MHave, a block", row, message(haveBlock(block(0), stamp(9, 9), "new")), 1},
		{"MHave, an old block", row, message(haveBlock(block(0), stamp(1, 1), "new")), 0},
		{"MHave, commands", row, message(have(3, true, command(3), command(4), command(5), command(6), command(7), zero, command(9))), 4},
		{"MHave, known commands", row, message(have(1, true, command(1), command(2))), 0},
		{"MHave, a bucket", row, message(haveBucket(brought(6), true)), 6},
		{"MHave, a bucket, not all forgotten", row, message(haveBucket(brought(4), true)), 5},
		{"MHave, an old bucket", row, message(haveBucket(brought(3), true)), 0},
		{"Trim", row, trim(number, 9), 4},
		{"Trim, one", row, trim(number, 1), 2},
		{"Trim, none", row, trim(number, 0), 0},
		{"Trim, another bucket", row, trim(0, 9), 0},
		{"Mend", row, func(t testing.TB, s machine) api.Errno {
			list, err := s.Mend(3, dir)
			if (err == api.OK) != (len(list) == 1) {
				t.Fatalf("%v, %v", list, err)
			}
			return err
		}, 0},
		{"Mend, a block", row, func(t testing.TB, s machine) api.Errno { _, err := s.Mend(1, block(0)); return err }, 0},
	}
}

// ready is a server that has done what comes ahead of a step.
func (x step) ready(t testing.TB, sectors int) (*server.Server, *disk.Disk) {
	t.Helper()
	s, d := fresh(t, sectors)
	mustDo(t, s, three(), x.first...)
	return s, d
}

// states are what a server holds behind none, one, .. all records of a step: by Arm(n).
func (x step) states(t testing.TB, sectors int) []string {
	t.Helper()
	var list []string
	for n := range x.records + 1 {
		s, d := x.ready(t, sectors)
		s.Arm(n)
		x.do(t, s)
		list = append(list, reopened(t, three(), d))
	}
	return list
}

// Arm of a number below 0, 0, of as many records as the step makes, one less, more.
func TestP1305Arm(t *testing.T) {
	for _, x := range steps() {
		t.Run(x.name, func(t *testing.T) {
			// the records of a step, one by one, as a server without an arm has them
			s, d := x.ready(t, 120)
			ahead := view(s, three())
			mustWrite(t, d, x.records > 0, func() { x.do(t, s) })
			behind := view(s, three())
			for n := -2; n <= x.records+2; n++ {
				s, d := x.ready(t, 120)
				s.Arm(n)
				writes := n > 0 && x.records > 0
				mustWrite(t, d, writes, func() {
					if err := x.do(t, s); err != api.ErrFallen {
						t.Fatalf("Arm(%d): %v", n, err)
					}
				})
				mustBeDown(t, s, d)
				if d.Fallen() {
					t.Fatal("the disk has fallen")
				}
				got := reopened(t, three(), d)
				if n <= 0 && got != ahead || n >= x.records && got != behind {
					t.Fatalf("Arm(%d): it holds\n%s\nahead of the step\n%s\nbehind it\n%s", n, got, ahead, behind)
				}
			}
			// behind a fall the step can be done again, to the same end
			for n := range x.records + 1 {
				s, d := x.ready(t, 120)
				s.Arm(n)
				x.do(t, s)
				s = started(t, three(), d)
				x.do(t, s)
				if got := view(s, three()); got != behind {
					t.Fatalf("done again behind Arm(%d): it holds\n%s\nnot\n%s", n, got, behind)
				}
			}
		})
	}
}

// Arm(n) is behind the first n: in the order in which P1303 and P1306 name them.
func TestP1309ArmIsBehindTheFirst(t *testing.T) {
	for n, want := range [][]int{{}, {4}, {4, 5}, {4, 5, 7}, {4, 5, 7, 9}} {
		x := stepOf(t, "MHave, commands")
		s, d := x.ready(t, 120)
		s.Arm(n)
		x.do(t, s)
		s = started(t, three(), d)
		for _, i := range []int{4, 5, 7, 9} {
			if s.Instance(at(i)).Decided != slices.Contains(want, i) {
				t.Fatalf("Arm(%d): instance %d: %+v", n, i, s.Instance(at(i)))
			}
		}
	}
	for name, keys := range map[string][]api.Key{"MHave, a bucket": {at(1), at(2), at(3), at(4), at(6)}, "MHave, a bucket, not all forgotten": {at(1), at(2), at(3), at(4)}, "Trim": {at(1), at(2), at(3)}, "Trim, one": {at(1)}} {
		x := stepOf(t, name)
		for n := range x.records + 1 {
			s, d := x.ready(t, 120)
			was := lying(t, d)
			s.Arm(n)
			x.do(t, s)
			now := lying(t, d)
			if n > 0 {
				// the bucket first, then the instances, rising
				was = slices.Insert(was, 1, dir)
				was = slices.DeleteFunc(was, func(k api.Key) bool { return slices.Contains(keys[:n-1], k) })
			}
			if !same(now, was) {
				t.Fatalf("%s, Arm(%d): there lie %v, not %v", name, n, now, was)
			}
		}
	}
}

func stepOf(t *testing.T, name string) step {
	t.Helper()
	for _, x := range steps() {
		if x.name == name {
			return x
		}
	}
	t.Fatalf("no step %q", name)
	return step{}
}

// It falls at once, if there is no room for the records.
func TestP1305ArmWithoutRoom(t *testing.T) {
	for _, x := range steps() {
		if x.records == 0 {
			continue
		}
		for _, n := range []int{-1, 0, 1, 2, 99} {
			s, d := x.ready(t, 120)
			was := view(s, three())
			s.Limit(0)
			x.do(t, s)
			if view(s, three()) != was {
				continue // it needs no room
			}
			s.Arm(n)
			mustWrite(t, d, false, func() {
				if err := x.do(t, s); err != api.ErrFallen {
					t.Fatalf("%s: %v", x.name, err)
				}
			})
			mustBeDown(t, s, d)
			if got := reopened(t, three(), d); got != was {
				t.Fatalf("%s: it holds\n%s\nnot\n%s", x.name, got, was)
			}
		}
	}
}

// A second Arm takes the place of the first.
func TestP1305ArmTwice(t *testing.T) {
	x := stepOf(t, "MHave, commands")
	want := x.states(t, 120)
	for a := -1; a <= 5; a++ {
		for b := -1; b <= 5; b++ {
			s, d := x.ready(t, 120)
			s.Arm(a)
			s.Arm(b)
			x.do(t, s)
			if got := reopened(t, three(), d); got != want[min(max(b, 0), 4)] {
				t.Fatalf("Arm(%d), Arm(%d): it holds\n%s", a, b, got)
			}
		}
	}
}

// A call that is refused is no step, nor is one that asks: it stays armed.
func TestP1305NoSteps(t *testing.T) {
	s, d := row(t, "DD")
	s.Arm(1)
	for _, n := range []int{-1, 2, math.MaxInt, math.MinInt} {
		mustRefuseTrim(t, s, n, 0, api.ErrBucket)
		mustRefuseTrim(t, s, n, -1, api.ErrBucket)
	}
	mustRefuseTrim(t, s, number, -1, api.ErrArg)
	for _, n := range []int{-1, 0, me, 4} {
		mustRefuseMend(t, s, n, dir, api.ErrAddr)
	}
	mustRefuseMend(t, s, 3, at(1), api.ErrKey)
	mustRefuseMend(t, s, 3, api.Key{}, api.ErrKey)
	s.Limit(90)
	view(s, three())
	if s.Fallen() {
		t.Fatal("it has fallen")
	}
	mustRefuseTrim(t, s, number, 2, api.ErrFallen)
	mustBeDown(t, s, d)
	if s = started(t, three(), d); s.Bucket(number).Upto != 2 || len(lying(t, d)) != 3 {
		t.Error("not behind the first record")
	}

	c := seven()
	s, d = started(t, c, newDisk(t, 60)), nil
	s.Arm(0)
	_, theirs, _ := of(t, c, false)
	mustRefuseMend(t, s, 3, theirs, api.ErrAddr)
	if s.Fallen() {
		t.Fatal("a Mend that is refused is no step")
	}
	// a Trim of a bucket that is none of its own is one
	mustRefuseTrim(t, s, theirs.A, 0, api.ErrFallen)
	if !s.Fallen() {
		t.Fatal("it has not fallen")
	}
	s = started(t, c, newDisk(t, 60))
	s.Arm(0)
	if got := tell(t, s, c, ask(theirs, 1)); len(got) != 0 || !s.Fallen() {
		t.Fatal("a message of a key that is none of its own is a step")
	}
}

// A server that is not armed does not fall, nor does one that is started behind an armed one.
func TestP1305NotArmed(t *testing.T) {
	s, d := fresh(t, 120)
	for _, x := range steps() {
		for _, m := range x.first {
			mustDo(t, s, three(), m)
		}
		x.do(t, s)
		if s.Fallen() {
			t.Fatal(x.name)
		}
	}
	s.Arm(0)
	s = started(t, three(), d)
	must(t, s, query(block(7)), blank())
	if s.Fallen() {
		t.Fatal("it was not armed")
	}
}
