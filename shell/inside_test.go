package shell

import (
	"strings"
	"testing"

	"cairn/api"
)

// A Result with each of its parts zero and not zero, in all 64 ways: few of them a world has.
func TestP2004Parts(t *testing.T) {
	t.Parallel()
	for bits := range 64 {
		var r api.Result
		want := "ok"
		has := func(bit int, set func(), told string) {
			if bits&(1<<bit) != 0 {
				set()
				want += " " + told
			}
		}
		has(0, func() { r.Entry = api.Entry{Name: "a b", File: api.File{Client: 3, Op: 44}, Size: 5} }, `"a b" 3.44 5`)
		has(1, func() {
			r.List = []api.Entry{{Name: "\n", File: api.File{Client: 1, Op: 2}}, {Name: "z", Size: 7, File: api.File{Client: 255, Op: api.MaxNum}}}
		}, `"\n" 1.2 0 "z" 255.1099511627776 7`)
		has(2, func() { r.Data = []byte{0, 'x', '"'} }, `"\x00x\""`)
		has(3, func() { r.N = 12 }, "12")
		has(4, func() { r.Stamp = api.Stamp{N: 9, Client: 8} }, "9.8")
		has(5, func() { r.Instance = 77 }, "@77")
		if got := answer(resultWords(r)...); got != want {
			t.Errorf("%+v: %s, not %s", r, got, want)
		}
		// beside an error nothing else is told
		r.Err = api.ErrStale
		if got := answer(resultWords(r)...); got != "stale" {
			t.Errorf("%+v: %s", r, got)
		}
	}
}

// Of an entry, a stamp, a row of bytes just one part is not zero: it is told whole.
func TestP2004HalfZero(t *testing.T) {
	t.Parallel()
	for _, x := range []struct {
		r    api.Result
		want string
	}{
		{api.Result{}, "ok"},
		{api.Result{List: []api.Entry{}, Data: []byte{}}, "ok"},
		{api.Result{Entry: api.Entry{Name: "a"}}, `ok "a" 0.0 0`},
		{api.Result{Entry: api.Entry{File: api.File{Client: 1}}}, `ok "" 1.0 0`},
		{api.Result{Entry: api.Entry{File: api.File{Op: 1}}}, `ok "" 0.1 0`},
		{api.Result{Entry: api.Entry{Size: 1}}, `ok "" 0.0 1`},
		{api.Result{List: []api.Entry{{}}}, `ok "" 0.0 0`},
		{api.Result{Data: []byte{0}}, `ok "\x00"`},
		{api.Result{Data: make([]byte, 3)}, `ok "\x00\x00\x00"`},
		{api.Result{Stamp: api.Stamp{N: 1}}, "ok 1.0"},
		{api.Result{Stamp: api.Stamp{Client: 1}}, "ok 0.1"},
		{api.Result{N: -1, Instance: -1}, "ok -1 @-1"},
		{api.Result{Err: api.ErrWorn}, "worn"}, {api.Result{Err: api.ErrNotFound}, "notfound"}, {api.Result{Err: -7}, "error"},
	} {
		if got := answer(resultWords(x.r)...); got != x.want {
			t.Errorf("%+v: %s, not %s", x.r, got, x.want)
		}
	}
}

// Lines of a history that no world has had here: what is told is the last return that is no part.
func TestP2003LastResult(t *testing.T) {
	t.Parallel()
	returned := func(client, n int) api.Line {
		return api.Line{Kind: api.HReturn, Client: client, Number: n, Result: api.Result{N: n}}
	}
	begin, end := api.Line{Kind: api.HBegin, Client: 1}, api.Line{Kind: api.HEnd, Client: 1, Result: api.Result{N: 99}}
	invoke, learn := api.Line{Kind: api.HInvoke, Client: 1}, api.Line{Kind: api.HLearn}
	for i, x := range []struct {
		lines []api.Line
		want  int // 0: there is none
	}{
		{nil, 0}, {[]api.Line{invoke}, 0}, {[]api.Line{invoke, returned(2, 5)}, 0}, {[]api.Line{returned(1, 5), returned(2, 6), learn}, 5}, {[]api.Line{returned(1, 5), invoke}, 5},
		{[]api.Line{begin, returned(1, 5)}, 0}, {[]api.Line{returned(1, 4), begin, returned(1, 5), returned(1, 6)}, 4}, {[]api.Line{begin, returned(1, 5), end}, 99},
		{[]api.Line{begin, returned(1, 5), returned(2, 7), end, returned(2, 8)}, 99}, {[]api.Line{begin, end, returned(1, 6)}, 6}, {[]api.Line{begin, end, returned(1, 6), begin, returned(1, 7)}, 6},
		{[]api.Line{returned(1, 5), {Kind: api.HBegin, Client: 2}, returned(1, 6), {Kind: api.HEnd, Client: 2}}, 6},
	} {
		r, there := lastResult(x.lines, 1)
		if r.N != x.want || there != (x.want > 0) {
			t.Errorf("%d: %d, %v, not %d", i, r.N, there, x.want)
		}
	}
}

// An answer has just as many bytes as there may be, or is too long: whatever words make it.
func TestP2003AnswerLength(t *testing.T) {
	t.Parallel()
	half := strings.Repeat("x", api.MaxBytes/2)
	for _, x := range []struct {
		words []string
		want  int
	}{
		{nil, 0}, {[]string{""}, 0}, {[]string{half, half[1:]}, api.MaxBytes}, {[]string{half, half}, 4}, {[]string{half + half}, api.MaxBytes}, {[]string{half + half + "x"}, 4}, {[]string{half + half, ""}, 4},
	} {
		if got := answer(x.words...); len(got) != x.want || x.want == 4 && got != "long" {
			t.Errorf("%d words: %d bytes, not %d", len(x.words), len(got), x.want)
		}
	}
}

// The table has each command once, mend twice; each is done somehow, and only world needs no world.
func TestP2003Table(t *testing.T) {
	t.Parallel()
	seen := map[string]int{}
	for _, c := range commands() {
		seen[c.name]++
		if c.does == nil || c.bare != (c.name == "world") || c.many != (c.name == "world") {
			t.Errorf("%+v", c)
		}
	}
	for name, n := range seen {
		if want := 1 + strings.Count(name, "mend"); n != want {
			t.Errorf("%s: %d times", name, n)
		}
	}
	if len(seen) != 36 {
		t.Error("commands:", len(seen))
	}
}

// told plays lines in one session, and tells the last answer.
func told(s *session, lines ...string) string {
	last := ""
	for _, l := range lines {
		last = answer(s.line(l)...)
	}
	return last
}

// No world has a history without an order, nor one that is not legal: so the session is handed another configuration than its world's.
func TestP2003NoWitness(t *testing.T) {
	t.Parallel()
	s := &session{commands: commands()}
	told(s, "world 0 1 1 4 3 512 7", "create 1 a", "all", "create 1 b", "all", "write 1 1.1 0 x", "all", "create 1 c", "all")
	for line, want := range map[string]string{"witness": "ok 0 3 6 8", "legal": "ok 4"} {
		if got := told(s, line); got != want {
			t.Errorf("%s: %s, not %s", line, got, want)
		}
	}
	s.config.Room = 1 // the second name has no room in a store like that
	for line, want := range map[string]string{"witness": "ok 0 3 6 8", "legal": "ok 1"} {
		if got := told(s, line); got != want {
			t.Errorf("%s: %s, not %s", line, got, want)
		}
	}
	s.config.Block = 3 // and no block of four bytes may be written
	for _, line := range []string{"witness", "legal"} {
		if got := told(s, line); got != "no" {
			t.Errorf("%s: %s", line, got)
		}
	}
}

// No world has a fault either.
func TestP2003Faults(t *testing.T) {
	t.Parallel()
	if got := answer(faultWords(nil)...); got != "ok" {
		t.Error(got)
	}
	var all []api.Fault
	for _, kind := range []int{api.FTag, api.FSplit, api.FSplit, api.FLater, api.FBucket, api.FRecord} {
		all = append(all, api.Fault{Kind: kind, Key: api.Key{Kind: 1, A: 2, B: 3, C: 4}})
	}
	if got := answer(faultWords(all)...); got != "ok 3 1 1 2 4 5" {
		t.Error(got)
	}
	s := &session{commands: commands()}
	told(s, "world 1 1 1 4 3 512 9 7 8 6", "write 1 1.1 0 x", "all")
	images := s.images()
	if len(images) != 4 {
		t.Fatal(len(images))
	}
	for i, id := range []int{9, 7, 8, 6} {
		if data, _ := s.world.Image(id); images[i].Server != id || string(images[i].Data) != string(data) {
			t.Errorf("%d: of server %d", i, images[i].Server)
		}
	}
	s.config.Block = 3 // no block has four bytes
	if got := told(s, "audit"); got != "ok 5" {
		t.Error(got)
	}
	s.config.Servers = []int{9, 7, 5} // the world has no disk of 5
	if got := told(s, "audit"); got != "sectors" {
		t.Error(got)
	}
	s.config.F = 4
	if got := told(s, "audit"); got != "config" {
		t.Error(got)
	}
}
