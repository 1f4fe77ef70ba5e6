package file_test

import (
	"bytes"
	"fmt"
	"slices"
	"testing"

	"cairn/api"
)

// exact: all that is sent is answered at once.
func exact(s *seat, _ lot, way []api.Packet) { s.goOn(way) }

// rough answers what is sent in whatever order, some of it twice, some late, some never; ticks bring it on.
func rough(s *seat, r lot, way []api.Packet) {
	var back []api.Packet
	var late []api.Packet
	for tries := 0; s.Pending(); tries++ {
		if tries > 20000 {
			s.twin().says("it does not return")
			return
		}
		switch n := r.Intn(20); {
		case n == 0 || len(way)+len(back) == 0:
			way = append(way, s.Tick()...)
		case n < 10 && len(way) > 0:
			i := r.Intn(len(way))
			back = append(back, s.answers(way[i:i+1])...)
			if n < 9 { // else it comes twice
				way = slices.Delete(way, i, i+1)
			}
		case len(back) > 0:
			i := r.Intn(len(back))
			p := back[i]
			if n < 18 { // else it comes twice
				back = slices.Delete(back, i, i+1)
			}
			if n == 17 {
				late = append(late, p)
			} else if n != 16 { // else it is lost
				way = append(way, s.Step(p.Data)...)
			}
			if len(late) > 0 && n == 15 {
				way = append(way, s.Step(oneOf(r, late...).Data)...)
			}
		}
	}
	for _, p := range append(late, back...) {
		if list := s.Step(p.Data); len(list) > 0 {
			s.twin().says("behind its end it sends %v", list)
		}
	}
}

// inTurns plays operations of several users, one behind the other, and tells the first thing in which they, the words or a store are not alike.
func inTurns(r lot, seats []*seat, ops int, all []store, known *plainStore, answer func(*seat, lot, []api.Packet), ends map[string]int) string {
	for i := range ops {
		s := oneOf(r, seats...)
		o := r.op(known)
		from, number := len(s.lines), s.client.Number()
		way, err := s.Invoke(o)
		if err == api.OK {
			answer(s, r, way)
		}
		got, done := s.Done()
		if err != api.OK {
			got, done = api.Result{Err: err}, true
		}
		if s.fault() != "" {
			return fmt.Sprintf("%d: %+v: %s", i, o, s.fault())
		}
		if !done || s.Pending() {
			return fmt.Sprintf("%d: %+v has not returned", i, o)
		}
		if fault := misfit(s.lines[from:], o, s.client.Id(), number, got); err == api.OK && fault != "" {
			return fmt.Sprintf("%d: %+v: %s", i, o, fault)
		}
		for _, x := range append(all, known) {
			if want := x.Do(s.client.Id(), number+1, o); !sameAnswer(got, want) || want.Stamp != (api.Stamp{}) || want.Instance != 0 {
				return fmt.Sprintf("%d: %+v: %+v, but of %T %+v", i, o, got, x, want)
			}
		}
		ends[fmt.Sprint(o.Kind, " ", got.Err == api.OK)]++
		ends[got.Err.Error()]++
	}
	return ""
}

// halls are the configurations of plays.
func halls() []api.Config {
	return []api.Config{small(), wide(), least(), {Servers: []int{4, 2, 1}, F: 1, Points: 1, Buckets: 1, Block: 16, Room: 6}}
}

// Users over servers are as the Model, whoever asks; and as the words, call by call.
func TestP1510UsersAndModel(t *testing.T) {
	t.Parallel()
	for _, c := range halls() {
		for name, answer := range map[string]func(*seat, lot, []api.Packet){"exact": exact, "rough": rough} {
			t.Run(fmt.Sprint(name, ", F ", c.F, ", Block ", c.Block), func(t *testing.T) {
				t.Parallel()
				ends := map[string]int{}
				for seed := range int64(6) {
					h := hallOf(t, c, 8000)
					seats := []*seat{h.twins(t, me, ""), h.twins(t, 255, ""), h.twins(t, 1, "")}
					m := model(t, c)
					if fault := inTurns(randomly(seed), seats, 300, []store{m}, newStore(c, ""), answer, ends); fault != "" {
						t.Fatalf("seed %d: %s", seed, fault)
					}
				}
				for kind := api.OCreate; kind <= api.OCopy; kind++ {
					if ends[fmt.Sprint(kind, " true")] < 5 && (c.Room > 1 || kind < api.OCopy) {
						t.Errorf("too few of %d to tell: %v", kind, ends)
					}
				}
			})
		}
	}
}

// The Model alone, in long rows.
func TestP1508ModelAndWords(t *testing.T) {
	t.Parallel()
	for _, c := range append(halls(), api.Config{Servers: []int{1}, Points: 1, Buckets: 256, Block: 2, Room: 256}) {
		t.Run(fmt.Sprint("F ", c.F, ", Block ", c.Block), func(t *testing.T) {
			t.Parallel()
			ends := map[string]int{}
			for seed := range int64(50) {
				r, m, known := randomly(seed), model(t, c), newStore(c, "")
				if fault := alike(r, m, known, 600, ends); fault != "" {
					t.Fatalf("seed %d: %s", seed, fault)
				}
			}
			for _, err := range []api.Errno{api.OK, api.ErrNotFound, api.ErrExists, api.ErrStale, api.ErrName, api.ErrSize, api.ErrOp, api.ErrArg, api.ErrIndex, api.ErrBucket, api.ErrBlock} {
				if ends[err.Error()] < 3 {
					t.Errorf("too few of %v to tell: %v", err, ends)
				}
			}
			if c.Room < 4 && ends["room"] < 20 {
				t.Errorf("too few of room to tell: %v", ends)
			}
		})
	}
}

// alike plays operations on two stores.
func alike(r lot, m, known store, ops int, ends map[string]int) string {
	next := map[int]int{} // by client, the last number
	state := known.(*plainStore)
	for i := range ops {
		who, o := oneOf(r, me, 255, 1), r.op(state)
		got, want := m.Do(who, next[who]+1, o), known.Do(who, next[who]+1, o)
		if !sameResult(got, want) {
			return fmt.Sprintf("%d: %+v: %+v, not %+v", i, o, got, want)
		}
		next[who] += 100
		ends[got.Err.Error()]++
	}
	return ""
}

// rows are names of rows of bytes: what T4 and P1511 say, and nothing else.
type rows struct {
	c     api.Config
	named map[string][]byte
}

func (x *rows) in(number int) []string {
	var all []string
	for name := range x.named {
		if bucketOf(x.c, lookup(name)) == number {
			all = append(all, name)
		}
	}
	slices.Sort(all)
	return all
}

// do tells the error, the bytes that were read, and the names that were listed.
func (x *rows) do(o api.Op) (api.Errno, []byte, []string) {
	row, there := x.named[o.Name]
	room := func(name string) api.Errno {
		if _, is := x.named[name]; is {
			return api.ErrExists
		}
		if len(x.in(bucketOf(x.c, lookup(name)))) >= x.c.Room {
			return api.ErrRoom
		}
		return api.OK
	}
	switch {
	case o.Kind == api.OList:
		return api.OK, nil, x.in(o.N)
	case o.Kind == api.OCreate:
		if err := room(o.Name); err != api.OK {
			return err, nil, nil
		}
		x.named[o.Name] = nil
		return api.OK, nil, nil
	case !there:
		return api.ErrNotFound, nil, nil
	case o.Kind == api.ORemove:
		delete(x.named, o.Name)
	case o.Kind == api.OReadAt:
		end := min(o.At+o.N, len(row))
		return api.OK, row[min(o.At, end):end], nil
	case o.Kind == api.OWriteAt && len(o.Data) > 0:
		longer := append(row, make([]byte, max(0, o.At+len(o.Data)-len(row)))...)
		copy(longer[o.At:], o.Data)
		x.named[o.Name] = longer
	case o.Kind == api.OTruncate:
		x.named[o.Name] = append(bytes.Clone(row[:min(o.N, len(row))]), make([]byte, max(0, o.N-len(row)))...)
	case o.Kind == api.OCopy:
		if err := room(o.Other); err != api.OK {
			return err, nil, nil
		}
		x.named[o.Other] = bytes.Clone(row)
	}
	return api.OK, nil, nil
}

// byRows plays operations of names alone on a store, and holds it against rows of bytes.
func byRows(r lot, c api.Config, m store, ops int) string {
	x := &rows{c: c, named: map[string][]byte{}}
	known := newStore(c, "") // for drawing alone
	next := map[int]int{}
	reach := map[string]int{} // the greatest byte that was ever asked for
	for i := range ops {
		who, o := oneOf(r, me, 255, 1), r.byName(known)
		if refusedAlone(c, o, false) != api.OK {
			continue
		}
		first := next[who] + 1
		next[who] += 100
		got := m.Do(who, first, o)
		known.Do(who, first, o)
		err, data, listed := x.do(o)
		var list []string
		for _, e := range got.List {
			list = append(list, e.Name)
		}
		if got.Err != err || !bytes.Equal(got.Data, data) || !slices.Equal(list, listed) {
			return fmt.Sprintf("%d: %+v: %+v, not %v, %v, %v", i, o, got, err, data, listed)
		}
		for _, name := range []string{o.Name, o.Other} {
			reach[name] = max(reach[name], o.At+len(o.Data), o.N, len(x.named[o.Name]))
			if fault := x.probe(m, name, reach[name], who, first+50); fault != "" {
				return fmt.Sprintf("%d: behind %+v: %s", i, o, fault)
			}
		}
	}
	return ""
}

// probe looks at one name: its size, all of its bytes, and zeros beyond.
func (x *rows) probe(m store, name string, reach, who, number int) string {
	row, there := x.named[name]
	if !there {
		return ""
	}
	e := m.Do(who, number, lookup(name)).Entry
	got := m.Do(who, number, readAt(name, 0, reach+9))
	if e.Size != len(row) || !bytes.Equal(got.Data, row) || got.Entry != e {
		return fmt.Sprintf("%s is %+v, %+v, not %v", name, e, got, row)
	}
	for i := e.Size / x.c.Block; i <= reach/x.c.Block+1; i++ {
		block := m.Do(who, number, read(e.File, i)).Data
		for k, b := range block {
			if i*x.c.Block+k >= e.Size && b != 0 {
				return fmt.Sprintf("%s, of the size %d, has %d at %d", name, e.Size, b, i*x.c.Block+k)
			}
		}
	}
	return ""
}

func TestP1511RowsOfBytes(t *testing.T) {
	t.Parallel()
	for _, c := range append(halls(), api.Config{Servers: []int{1}, Points: 1, Buckets: 1, Block: 5, Room: 10}) {
		t.Run(fmt.Sprint("Block ", c.Block, ", Room ", c.Room), func(t *testing.T) {
			t.Parallel()
			for seed := range int64(25) {
				if fault := byRows(randomly(seed), c, model(t, c), 400); fault != "" {
					t.Fatalf("seed %d: %s", seed, fault)
				}
			}
		})
	}
}

// Rules broken on purpose: the plays above find each of them out.
func TestWrongRulesAreFoundOut(t *testing.T) {
	t.Parallel()
	c := small()
	inModel := []string{
		"reads beyond the size", "writes over the first bytes", "writes over the last bytes", "no zeros", "the block of the new end stays",
		"grows by nothing", "the Lookup's entry", "one number for all parts", "one bucket", "room for all",
	}
	inCalls := []string{
		"reads from the first block on", "reads at least one", "the last block is not read beyond the size", "reads all", "grows always", "sets the size", "the size first", "zeros from the left", "sets what it is",
		"reads ahead of the name", "an empty copy grows", "no HBegin", "learned behind the return", "the last part's Instance", "the next part's packets alone", "the next part's packets first",
		"pending for the client alone", "a tick for the Lookup alone",
	}
	for _, wrong := range inModel {
		t.Run(wrong, func(t *testing.T) {
			t.Parallel()
			found := 0
			for seed := range int64(10) {
				if alike(randomly(seed), model(t, c), newStore(c, wrong), 600, map[string]int{}) != "" {
					found++
				}
			}
			if found < 5 {
				t.Errorf("found %d times of 10", found)
			}
		})
	}
	for _, wrong := range append(inCalls, inModel[:7]...) {
		t.Run(wrong+", by calls", func(t *testing.T) {
			t.Parallel()
			found := 0
			for seed := range int64(4) {
				seats := []*seat{hallOf(t, c, 8000).twins(t, me, wrong)}
				if inTurns(randomly(seed), seats, 150, []store{model(t, c)}, newStore(c, ""), rough, map[string]int{}) != "" {
					found++
				}
			}
			if found < 2 {
				t.Errorf("found %d times of 4", found)
			}
		})
	}
	for _, wrong := range []string{"no zeros", "the block of the new end stays", "writes over the first bytes", "writes over the last bytes", "reads beyond the size"} {
		t.Run(wrong+", by rows", func(t *testing.T) {
			t.Parallel()
			fault := ""
			for seed := range int64(25) {
				if fault = byRows(randomly(seed), c, newStore(c, wrong), 400); fault != "" {
					break
				}
			}
			if fault == "" {
				t.Error("it is not found out")
			}
		})
	}
}
