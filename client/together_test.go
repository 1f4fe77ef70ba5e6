package client_test

import (
	"bytes"
	"fmt"
	"slices"
	"testing"

	"cairn/api"
	"cairn/bucket"
)

// side is one client of a play with others: the package's own, watched, and the chapter's words beside it.
type side struct {
	*watch
	words *plain
	open  bool
	seen  map[int]int // by bucket, the greatest instance of a command that returned ahead of the Invoke
	tags  map[api.Key]api.Stamp
}

// together has clients that ask all at once, with whatever order, losses and doubles.
type together struct {
	r     lot
	c     api.Config
	at    map[int]*keeper
	sides []*side
	way   []api.Packet
	row   map[api.Key]api.Command
	done  []returned
	seen  map[int]int
	tags  map[api.Key]api.Stamp // by block, the greatest tag that an operation returned with
	wrote map[string]bool       // key, tag and block of all writes
	moved int                   // how many operations on blocks have returned
	fault string
}

// returned is an operation with its result.
type returned struct {
	command api.Command
	number  int
	result  api.Result
}

func newTogether(t testing.TB, seed int64, c api.Config) *together {
	p := &together{r: randomly(seed), c: c, at: map[int]*keeper{}, row: map[api.Key]api.Command{}, seen: map[int]int{}, tags: map[api.Key]api.Stamp{}, wrote: map[string]bool{}}
	for _, id := range c.Servers {
		p.at[id] = newKeeper(c)
	}
	for _, id := range []int{me, 255, 1}[:2+p.r.Intn(2)] {
		p.sides = append(p.sides, &side{watch: newWatch(made(t, c, id)), words: newPlain(c, id, "")})
	}
	return p
}

func (p *together) says(format string, a ...any) {
	if p.fault == "" {
		p.fault = fmt.Sprintf(format, a...)
	}
}

// do makes a call of both clients of a side, and looks at what came of it.
func (p *together) do(s *side, c call) {
	packets, err := c.on(s.words)
	list, gotErr := c.on(s.watch)
	if err != gotErr || !samePackets(list, packets) || told(s.watch) != told(s.words) {
		p.says("client %d, at %s: %v, %v, not %v, %v", s.Id(), c.name, list, gotErr, packets, err)
	}
	if s.fault != "" {
		p.says("client %d: %s", s.Id(), s.fault)
	}
	p.way = append(p.way, list...)
	if m := s.words.asked; m.Kind == api.MPut && s.op.Kind == api.OWrite {
		p.wrote[fmt.Sprint(m.Key, m.Stamp, m.Block)] = true
	}
	s.words.News()
	for k, x := range s.News() {
		if is, there := p.row[k]; there && is != x {
			p.says("%v: %+v and %+v", k, is, x)
		}
		p.row[k] = x
	}
	if r, done := s.Done(); done && s.open {
		s.open = false
		p.returned(s, r)
	}
}

func (p *together) returned(s *side, r api.Result) {
	o := s.op
	if r.Err == api.ErrWorn {
		p.says("%+v: worn", o)
		return
	}
	if !isBlock(o) {
		number := bucketOf(p.c, o)
		if p.done = append(p.done, returned{commandOf(o, s.Id(), s.Number()), number, r}); r.Instance <= s.seen[number] {
			p.says("%+v in %d, though one in %d had returned ahead of it", o, r.Instance, s.seen[number])
		}
		p.seen[number] = max(p.seen[number], r.Instance)
		return
	}
	p.moved++
	k, data := block(o.File, o.N), r.Data
	below := func(a, b api.Stamp) bool { return a.N < b.N || a.N == b.N && a.Client < b.Client }
	if o.Kind == api.OWrite {
		data = o.Data
	}
	is := fmt.Sprint(k, r.Stamp, data)
	if o.Kind == api.ORead && r.Stamp != stamp(0, 0) && !p.wrote[is] || r.Stamp == stamp(0, 0) && !bytes.Equal(data, make([]byte, p.c.Block)) {
		p.says("a read of what nobody wrote: %s", is)
	}
	if below(r.Stamp, s.tags[k]) || o.Kind == api.OWrite && !below(s.tags[k], r.Stamp) {
		p.says("%+v has the tag %v, though %v had returned ahead of it", o, r.Stamp, s.tags[k])
	}
	if below(p.tags[k], r.Stamp) {
		p.tags[k] = r.Stamp
	}
}

func (p *together) invoke(s *side) {
	o := p.r.rightOp(p.c)
	if o.Kind == api.ORead || o.Kind == api.OWrite {
		o.File, o.N = file(1, 1), p.r.Intn(2) // so that they meet
	}
	s.open, s.seen, s.tags = true, map[int]int{}, map[api.Key]api.Stamp{}
	for number, v := range p.seen {
		s.seen[number] = v
	}
	for k, tag := range p.tags {
		s.tags[k] = tag
	}
	p.do(s, call{name: "Invoke", op: o})
}

// deliver hands a packet on; an answer to all clients: but for one they must pass it over.
func (p *together) deliver(q api.Packet) {
	if !q.To.Client {
		if c := p.at[q.To.Id]; c != nil {
			p.way = append(p.way, c.Step(q.Data)...)
		}
		return
	}
	for _, s := range p.sides {
		p.do(s, call{name: "Step", data: q.Data})
	}
}

func (p *together) step() {
	s := oneOf(p.r, p.sides...)
	switch n := p.r.Intn(100); {
	case n < 8 && !s.open && !s.Fallen():
		p.invoke(s)
	case n < 11:
		p.do(s, call{name: "Tick"})
	case n == 11 && p.r.Intn(40) == 0:
		p.do(s, call{name: "Stop"})
	case len(p.way) > 0:
		i := p.r.Intn(len(p.way))
		if p.r.Intn(3) > 0 { // mostly what has been under way for longest
			i = p.r.Intn(min(len(p.way), 6))
		}
		q := p.way[i]
		if n > 15 { // else it is doubled
			p.way = slices.Delete(p.way, i, i+1)
		}
		if n < 95 { // else it is lost
			p.deliver(q)
		}
	}
}

// results holds what commands were answered against the row that they stand in.
func (p *together) results() {
	for _, d := range p.done {
		var b api.Bucket
		var answer api.Answer
		for v := 1; v <= d.result.Instance; v++ {
			x, there := p.row[at(d.number, v)]
			if !there {
				p.says("nobody has learned %d of bucket %d", v, d.number)
				return
			}
			b, answer, _ = bucket.Apply(b, x, p.c.Room)
		}
		want := api.Result{Err: answer.Err, Entry: answer.Entry, List: answer.List, Instance: d.result.Instance}
		if p.row[at(d.number, d.result.Instance)] != d.command || !sameResult(d.result, want) {
			p.says("%+v: %+v, not %+v", d.command, d.result, want)
		}
	}
}

// Clients that ask at once, with losses and doubles: each packet as P1409 says, each call as the chapter's words, all answers those of one row.
func TestP1409Together(t *testing.T) {
	t.Parallel()
	for _, c := range []api.Config{four(), {Servers: []int{9, 2, 3, 1, 200, 5, 255}, F: 2, Points: 3, Buckets: 2, Block: 3, Room: 2}} {
		t.Run(fmt.Sprint("F ", c.F), func(t *testing.T) {
			t.Parallel()
			commands, moved := 0, 0
			for seed := range int64(60) {
				p := newTogether(t, seed, c)
				for range 3000 {
					if p.step(); p.fault != "" {
						t.Fatalf("seed %d: %s", seed, p.fault)
					}
				}
				if p.results(); p.fault != "" {
					t.Fatalf("seed %d: %s", seed, p.fault)
				}
				commands += len(p.done)
				moved += p.moved
			}
			if commands < 300 || moved < 100 {
				t.Errorf("too few to tell: %d commands, %d blocks", commands, moved)
			}
		})
	}
}
