package chain_test

import (
	"fmt"
	"math/rand"
	"slices"
	"testing"

	"cairn/api"
	"cairn/bucket"
	"cairn/msg"
)

// side is one chain of a play: the package's own with the chapter's words beside it; or, where a rule is broken on purpose, these words alone.
type side struct {
	pair
	op       int         // of its last command
	command  api.Command // that one
	ahead    int         // the greatest instance of a command that was done ahead of it
	open     bool        // it was not done yet
	newest   int         // the greatest instance of its news
	stopped  bool        // it is asked nothing more
	low      [2]int      // its first ballot and round
	finished map[string]int
}

// use is the chain that is played.
func (s *side) use() machine {
	if s.real == nil {
		return s.words
	}
	return s.real
}

// do makes a call; where there are two chains they must be alike.
func (s *side) do(c call) ([]api.Msg, string) {
	if s.real == nil {
		return c.on(s.words), ""
	}
	return s.pair.do(c)
}

// vote is an acceptance: who has accepted at which ballot, where.
type vote struct {
	instance int
	ballot   api.Stamp
	server   int
}

// play is what P1108 speaks of: servers, chains, messages and answers under way.
type play struct {
	r       *rand.Rand
	room    int
	servers []int
	at      map[int]*keeper
	sides   []*side
	way     []api.Msg
	lossy   int // of a hundred messages so many are lost, and as many doubled
	deaf    int // to this client no answer comes for a while: others bring its command to its end, and trim it
	votes   map[vote]int
	row     []api.Command // what is decided, behind the first bucket
	after   []api.Bucket  // what the first so many of them make
	answers []api.Answer
	latest  int // the greatest instance of a command that is done
	valid   bool
	fault   string
}

// newPlay has servers that hold nothing; but in some plays, as if so many had been decided and trimmed, a bucket that is near its last instance.
func newPlay(seed int64, f int, wrong string) *play {
	p := &play{r: rand.New(rand.NewSource(seed)), at: map[int]*keeper{}, votes: map[vote]int{}, valid: wrong == "" && seed%16 == 0}
	p.room, p.lossy = oneOf(p.r, 1, 2, 4, api.MaxRoom), oneOf(p.r, 0, 5, 20)
	start := api.Bucket{}
	if p.r.Intn(10) == 0 {
		start = api.Bucket{Upto: api.MaxInstance - p.r.Intn(6), Entries: []api.Entry{entry("ash", 200, 1, 8)}, Lasts: []api.Last{{Client: 200, Op: 1, Instance: 5, File: file(200, 1)}}}
	}
	p.after = []api.Bucket{start}
	for _, i := range p.r.Perm(2*f + 1) {
		p.servers = append(p.servers, 10*i+1)
		p.at[10*i+1] = newKeeper(p.room, start)
	}
	worn := p.r.Intn(8) == 0
	for client := 1; client <= 2+p.r.Intn(3); client++ {
		of := plain{client: client, number: number, group: p.servers, room: p.room, wrong: wrong}
		s := &side{finished: map[string]int{}}
		if s.words = &of; wrong == "" {
			s.real = of.real()
		}
		if worn {
			s.low = [2]int{oneOf(p.r, 1, 1, 1, api.MaxNum-9), oneOf(p.r, 1, 1, api.MaxNum-20, api.MaxNum-2)}
		}
		p.sides = append(p.sides, s)
	}
	return p
}

func (p *play) f() int { return len(p.servers) / 2 }

// upto is how many instances are decided.
func (p *play) upto() int { return p.after[0].Upto + len(p.row) }

func (p *play) says(format string, a ...any) {
	if p.fault == "" {
		p.fault = fmt.Sprintf(format, a...)
	}
}

// made is what the row makes up to an instance.
func (p *play) made(upto int) (api.Bucket, bool) {
	if upto == 0 {
		return api.Bucket{}, true
	}
	i := upto - p.after[0].Upto
	if i < 0 || i >= len(p.after) {
		return api.Bucket{}, false
	}
	return p.after[i], true
}

// placed is the command of an instance, and its answer.
func (p *play) placed(v int) (api.Command, api.Answer) {
	i := v - p.after[0].Upto - 1
	if i < 0 || i >= len(p.row) {
		return api.Command{}, api.Answer{}
	}
	return p.row[i], p.answers[i]
}

// decided puts a command into its place of the row.
func (p *play) decided(v int, c api.Command) {
	if v <= p.upto() {
		if is, _ := p.placed(v); is != c {
			p.says("two commands are decided in %d: %v and %v", v, is, c)
		}
		return
	}
	if v > p.upto()+1 {
		p.says("%v is decided in %d, and nothing in %d", c, v, p.upto()+1)
		return
	}
	again := func(o api.Command) bool { return o.Client == c.Client && o.Op == c.Op }
	if c.Kind != api.CLookup && c.Kind != api.CList && slices.ContainsFunc(p.row, again) {
		p.says("%v stands twice", c)
	}
	b, a, _ := bucket.Apply(p.after[len(p.row)], c, p.room)
	p.row, p.after, p.answers = append(p.row, c), append(p.after, b), append(p.answers, a)
}

// asked hands a message to a server, and tells its answer.
func (p *play) asked(m api.Msg) []api.Msg {
	list := p.at[m.To.Id].answered(m)
	for _, a := range list {
		if a.Kind != api.MAccepted {
			continue
		}
		p.votes[vote{m.Key.B, m.Stamp, m.To.Id}] = 1
		n := 0
		for _, id := range p.servers {
			n += p.votes[vote{m.Key.B, m.Stamp, id}]
		}
		if n == p.f()+1 {
			p.decided(m.Key.B, m.Command)
		}
	}
	p.look(list)
	return list
}

// look holds messages against chapter 5: from what may be comes what may be.
func (p *play) look(list []api.Msg) {
	if !p.valid {
		return
	}
	c := api.Config{Servers: p.servers, F: p.f(), Points: 1, Buckets: 3, Block: 1, Room: p.room}
	for _, m := range list {
		if err := msg.Valid(m, c); err != api.OK {
			p.says("%v: no right message: %+v", err, m)
		}
	}
}

// do makes a call of a chain, puts what it tells under way, and holds all that it tells of itself against the row.
func (p *play) do(s *side, c call) {
	list, fault := s.do(c)
	if fault != "" {
		p.says("client %d, at %+v: %s", s.words.client, c, fault)
	}
	p.look(list)
	p.way = append(p.way, list...)
	b := s.use().Bucket()
	if made, there := p.made(b.Upto); !there || !sameBucket(b, made) {
		p.says("client %d: the bucket %+v, not %+v", s.words.client, b, made)
	}
	if p.r.Intn(4) == 0 {
		p.news(s)
	}
	if r, done := s.use().Done(); done && s.open {
		s.open = false
		s.finished[s.words.by]++
		p.done(s, r)
	}
}

func (p *play) news(s *side) {
	for v, c := range s.use().News() {
		if is, _ := p.placed(v); v <= s.newest || v > p.upto() || is != c {
			p.says("client %d: news %v of %d behind %d, where %v is", s.words.client, c, v, s.newest, is)
		}
		s.newest = v
	}
}

// done holds a result against the row.
func (p *play) done(s *side, r api.Result) {
	if r.Err == api.ErrWorn {
		if !sameResult(r, api.Result{Err: api.ErrWorn}) {
			p.says("worn, and more: %+v", r)
		}
		return
	}
	c, a := p.placed(r.Instance)
	if c != s.command || !sameResult(r, api.Result{Err: a.Err, Entry: a.Entry, List: a.List, Instance: r.Instance}) {
		p.says("%v: the result %+v; in that place %v was answered %+v", s.command, r, c, a)
	}
	if r.Instance <= s.ahead {
		p.says("%v in %d, though one in %d was done ahead of its Begin", s.command, r.Instance, s.ahead)
	}
	p.latest = max(p.latest, r.Instance)
}

// begin brings a new command, if none is pending.
func (p *play) begin(s *side) {
	if s.open {
		p.do(s, call{what: "Begin", command: s.command, ballot: 1, round: 1})
		return
	}
	s.op += 1 + p.r.Intn(2)
	s.command, s.ahead, s.open = anyCommand(p.r, s.words.client, s.op), p.latest, true
	if l := s.use().Bucket().Entries; len(l) > 0 && s.command.File.Client > 0 && p.r.Intn(3) > 0 {
		e := l[p.r.Intn(len(l))]
		s.command.Name, s.command.File = e.Name, e.File
	}
	ballot, round := max(s.low[0], s.use().Ballot()+1+p.r.Intn(2)), max(s.low[1], s.use().Round()+1+p.r.Intn(2))
	p.do(s, call{what: "Begin", command: s.command, ballot: ballot, round: round})
}

// deliver hands on one that was under way. An answer is handed to all chains: but for one they must pass it over.
func (p *play) deliver(m api.Msg) {
	if !m.To.Client {
		p.way = append(p.way, p.asked(m)...)
		return
	}
	if m.To.Id == p.deaf {
		return
	}
	for _, s := range p.sides {
		if !s.stopped {
			p.do(s, call{what: "Take", msg: m})
		}
	}
}

func (p *play) trim() {
	k := p.at[oneOf(p.r, p.servers...)]
	more := k.knows() - k.trimmed.Upto
	k.trim(k.trimmed.Upto + oneOf(p.r, more, more, p.r.Intn(more+1)))
	if made, there := p.made(k.trimmed.Upto); !there || !sameBucket(k.trimmed, made) {
		p.says("trimmed: %+v, not %+v", k.trimmed, made)
	}
}

// step does one thing, whichever.
func (p *play) step() {
	s := oneOf(p.r, p.sides...)
	switch n := p.r.Intn(200); {
	case n == 0 && p.r.Intn(6) == 0:
		s.stopped = true
	case n < 3:
		p.deaf = oneOf(p.r, 0, s.words.client)
	case n < 16:
		if !s.stopped {
			p.begin(s)
		}
	case n < 30:
		if !s.stopped {
			p.do(s, call{what: "Tick"})
		}
	case n < 44:
		p.trim()
	case len(p.way) > 0:
		i := p.r.Intn(len(p.way))
		if p.r.Intn(3) > 0 { // mostly what has been under way for longest
			i = p.r.Intn(min(len(p.way), 6))
		}
		m, lot := p.way[i], p.r.Intn(100)
		if lot >= p.lossy { // below: it is doubled, one of it stays under way
			p.way = slices.Delete(p.way, i, i+1)
		}
		if lot < 100-p.lossy { // above: it is lost
			p.deliver(m)
		}
	}
}

// ends are how the commands of plays came to their ends.
type ends map[string]int

func (e ends) count(p *play) {
	for _, s := range p.sides {
		for by, n := range s.finished {
			e[by] += n
		}
		if s.open {
			e["pending"]++
		}
		if s.words.base.Upto > p.after[0].Upto {
			e["behind a bucket"]++
		}
		for _, n := range s.words.news {
			if n.command.Client != s.words.client {
				e["another's"]++
			}
		}
	}
	for i, c := range p.row {
		if slices.Contains(p.row[:i], c) {
			e["decided twice"]++
		}
	}
}

// found plays at random, and tells the first fault.
func found(wrong string, f, plays int, e ends) string {
	for n := range plays {
		p := newPlay(int64(n)*7+int64(f), f, wrong)
		for range 200 + p.r.Intn(500*(f+1)) {
			p.step()
			if p.fault != "" {
				return fmt.Sprintf("F %d, play %d: %s", f, n, p.fault)
			}
		}
		for _, s := range p.sides {
			p.news(s)
		}
		if p.fault != "" {
			return fmt.Sprintf("F %d, play %d, at its end: %s", f, n, p.fault)
		}
		e.count(p)
	}
	return ""
}

func TestP1108RandomPlays(t *testing.T) {
	t.Parallel()
	for f := range api.MaxF + 1 {
		t.Run(fmt.Sprintf("F %d", f), func(t *testing.T) {
			t.Parallel()
			e := ends{}
			if fault := found("", f, 600, e); fault != "" {
				t.Fatal(fault)
			}
			for _, kind := range []string{"decided", "Last", "number", "instance", "pending", "another's", "behind a bucket"} {
				if e[kind] < 10 {
					t.Errorf("too few of a kind to tell: %v", e)
				}
			}
			if f < 2 && e["decided twice"] == 0 {
				t.Errorf("too few questions that were decided twice: %v", e)
			}
		})
	}
}

func TestP1108WrongRulesAreFoundOut(t *testing.T) {
	t.Parallel()
	for _, wrong := range wrongs() {
		if fault := found(wrong, 1, 2000, ends{}); fault == "" {
			t.Errorf("%s: no play tells a fault", wrong)
		}
	}
}
