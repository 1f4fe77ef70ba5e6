package file_test

import (
	"fmt"
	"slices"
	"testing"

	"cairn/api"
	"cairn/file"
)

// side is one user of a play with others.
type side struct {
	*seat
	open         bool
	o            api.Op
	from, number int // its lines and its number at the Invoke
}

// together has users that ask all at once, with whatever order, losses, doubles and falls.
type together struct {
	r       lot
	h       *hall
	sides   []*side
	known   *plainStore // for drawing alone
	way     []api.Packet
	learned map[api.Key]api.Command
	ends    map[string]int
	fault   string
}

func newTogether(t testing.TB, seed int64, c api.Config) *together {
	p := &together{r: randomly(seed), h: hallOf(t, c, 8000), known: newStore(c, ""), learned: map[api.Key]api.Command{}, ends: map[string]int{}}
	for _, id := range []int{me, 255, 1} {
		p.sides = append(p.sides, &side{seat: p.h.twins(t, id, "")})
	}
	return p
}

func (p *together) says(format string, a ...any) {
	if p.fault == "" {
		p.fault = fmt.Sprintf(format, a...)
	}
}

// look is behind each call of a side.
func (p *together) look(s *side, more []api.Packet) {
	if p.way = append(p.way, more...); s.fault() != "" {
		p.says("client %d: %s", s.client.Id(), s.fault())
	}
	r, done := s.Done()
	if done == s.Pending() && s.open {
		p.says("client %d: %s", s.client.Id(), told(s))
	}
	if !done || !s.open {
		return
	}
	s.open = false
	lines := s.lines[s.from:]
	if fault := misfit(lines, s.o, s.client.Id(), s.number, r); fault != "" {
		p.says("%+v: %s", s.o, fault)
	}
	p.ends[fmt.Sprint(s.o.Kind, " ", r.Err)]++
	for _, l := range lines {
		if is, there := p.learned[l.Key]; l.Kind == api.HLearn && there && is != l.Command {
			p.says("%v: %+v and %+v", l.Key, is, l.Command)
		}
		if l.Kind == api.HLearn {
			p.learned[l.Key] = l.Command
		}
	}
	p.count(s, lines, r)
	if r.Entry.Name != "" {
		p.known.entries[r.Entry.Name] = r.Entry
	}
	if s.o.Kind == api.ORemove || r.Err == api.ErrNotFound {
		delete(p.known.entries, s.o.Name)
	}
}

// count holds the parts of a composite operation that was not refused against Parts of what its Lookup answered.
func (p *together) count(s *side, lines []api.Line, r api.Result) {
	if isPart(s.o) || r.Err != api.OK {
		return
	}
	i := slices.IndexFunc(lines, func(l api.Line) bool { return l.Kind == api.HReturn })
	want := file.Parts(s.o, lines[i].Result.Entry, p.h.c.Block)
	if got := len(parts(lines)) - 1; got != want {
		p.says("%+v: %d parts, not %d", s.o, got, want)
	}
}

func (p *together) invoke(s *side) {
	o := p.r.op(p.known)
	from, number := len(s.lines), s.client.Number()
	more, err := s.Invoke(o)
	if err == api.OK {
		s.open, s.o, s.from, s.number = true, o, from, number
	}
	p.look(s, more)
}

// deliver hands a packet on; an answer to all users: but for one they must pass it over.
func (p *together) deliver(q api.Packet) {
	if !q.To.Client {
		p.way = append(p.way, p.h.answers([]api.Packet{q})...)
		return
	}
	for _, s := range p.sides {
		p.look(s, s.Step(q.Data))
	}
}

func (p *together) step() {
	s := oneOf(p.r, p.sides...)
	switch n := p.r.Intn(100); {
	case n < 8 && !s.open && !s.client.Fallen():
		p.invoke(s)
	case n < 11 && len(p.way) < 40:
		p.look(s, s.Tick())
	case n == 11 && p.r.Intn(150) == 0 && s != p.sides[0]:
		s.Stop()
		p.look(s, nil)
	case len(p.way) > 0:
		i := p.r.Intn(min(len(p.way), 8)) // mostly what has been under way for longest
		if p.r.Intn(4) == 0 {
			i = p.r.Intn(len(p.way))
		}
		q := p.way[i]
		if n > 13 { // else it is doubled
			p.way = slices.Delete(p.way, i, i+1)
		}
		if n < 97 { // else it is lost
			p.deliver(q)
		}
	}
}

// Users that ask at once: each call as the chapter's words, each operation's lines and parts as they must be.
func TestP1503Together(t *testing.T) {
	t.Parallel()
	for _, c := range []api.Config{small(), wide()} {
		t.Run(fmt.Sprint("F ", c.F), func(t *testing.T) {
			t.Parallel()
			ends := map[string]int{}
			for seed := range int64(8) {
				p := newTogether(t, seed, c)
				for range 12000 {
					if p.step(); p.fault != "" {
						t.Fatalf("seed %d: %s", seed, p.fault)
					}
				}
				for what, n := range p.ends {
					ends[what] += n
				}
			}
			for kind := api.OReadAt; kind <= api.OCopy; kind++ {
				if ends[fmt.Sprint(kind, " ok")] < 5 {
					t.Errorf("too few of %d to tell: %v", kind, ends)
				}
			}
		})
	}
}
