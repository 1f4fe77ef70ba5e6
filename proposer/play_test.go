package proposer_test

import (
	"fmt"
	"math/rand"
	"slices"
	"strconv"
	"strings"
	"testing"

	"cairn/acceptor"
	"cairn/api"
	"cairn/msg"
	"cairn/proposer"
)

// side is one proposer of a play: the package's own with the chapter's words beside it; or, where a rule is broken on purpose, these words alone.
type side struct {
	real  *proposer.Proposer
	words *plain
	fault string // where the two told unlike things
}

func newSide(of plain) *side {
	s := &side{words: of.start()}
	if of.wrong == "" {
		s.real = of.real()
	}
	return s
}

// do takes a step with both.
func (s *side) do(x step) []api.Msg {
	list := x.on(s.words)
	if s.real == nil {
		return list
	}
	told := x.on(s.real)
	if !sameMsgs(told, list) || !sameTold(toldBy(s.real), toldBy(s.words)) {
		s.fault = fmt.Sprintf("at %v it tells %v, not %v; of itself %+v", x, told, list, toldBy(s.real))
	}
	return told
}

// answered is what an acceptor makes of a message, and what it answers; to an MLearned nothing.
func answered(i api.Instance, m api.Msg) (api.Instance, []api.Msg) {
	var a api.Msg
	switch m.Kind {
	case api.MPrepare:
		i, a, _ = acceptor.Prepare(i, m.Stamp)
	case api.MAccept:
		i, a, _ = acceptor.Accept(i, m.Stamp, m.Command)
	default:
		i, _ = acceptor.Learned(i, m.Command)
		return i, nil
	}
	a.From, a.To, a.Op, a.Round, a.Key = m.To, m.From, m.Op, m.Round, m.Key
	return i, []api.Msg{a}
}

// play is what P911 speaks of: acceptors, proposers, messages and answers under way.
type play struct {
	r       *rand.Rand
	servers []int
	at      map[int]api.Instance
	sides   []*side
	way     []api.Msg
	lossy   int // of a hundred messages so many are lost, and as many doubled
	valid   bool
	fault   string
}

func newPlay(seed int64, f int, wrong string) *play {
	p := &play{r: rand.New(rand.NewSource(seed)), at: map[int]api.Instance{}, valid: wrong == "" && seed%16 == 0}
	for _, i := range p.r.Perm(2*f + 1) {
		p.servers = append(p.servers, 10*i+1)
	}
	p.lossy = oneOf(p.r, 0, 5, 20)
	low := oneOf(p.r, 1, 1, 1, 1, 1, api.MaxNum-2)
	for client := 1; client <= 2+p.r.Intn(4); client++ {
		p.sides = append(p.sides, newSide(plain{
			client: client, op: 4, key: key, group: p.servers, wrong: wrong,
			own:    api.Command{Kind: api.CCreate, Client: client, Op: 4, Name: "of " + strconv.Itoa(client)},
			ballot: low + p.r.Intn(3), round: oneOf(p.r, 1, 1, 1, 1, 1, 2, 2, 3, api.MaxNum-3, api.MaxNum-1, api.MaxNum),
		}))
	}
	return p
}

func (p *play) need() int { return len(p.servers)/2 + 1 }

// hold looks that what is told as decided is one command, and the own one of some proposer.
func (p *play) hold() {
	var all []api.Command
	for _, s := range p.sides {
		if s.fault != "" {
			p.fault = s.fault
		}
		if c, is := s.words.Decided(); is && !slices.Contains(all, c) {
			all = append(all, c)
		}
	}
	if len(all) > 1 {
		p.fault = fmt.Sprintf("two commands are decided: %v", all)
	}
	own := func(c api.Command) bool {
		return slices.ContainsFunc(p.sides, func(s *side) bool { return s.words.own == c && s.words.stage != ahead })
	}
	if len(all) == 1 && !own(all[0]) {
		p.fault = fmt.Sprintf("decided is %v, nobody's own command", all[0])
	}
}

// do takes a step of a proposer, and puts what it tells under way.
func (p *play) do(s *side, x step) {
	list := s.do(x)
	p.hold()
	p.look(list)
	p.way = append(p.way, list...)
}

// look holds messages against chapter 5: from what may be comes what may be.
func (p *play) look(list []api.Msg) {
	if !p.valid {
		return
	}
	for _, m := range list {
		c := api.Config{Servers: p.servers, F: len(p.servers) / 2, Points: 1, Buckets: 3, Block: 1, Room: 1}
		if err := msg.Valid(m, c); err != api.OK {
			p.fault = fmt.Sprintf("%v: no right message: %+v", err, m)
		}
	}
}

// deliver hands on one that was under way. An answer is handed to all proposers: but for one they must pass it over.
func (p *play) deliver(m api.Msg) {
	if !m.To.Client {
		i, answers := answered(p.at[m.To.Id], m)
		p.at[m.To.Id] = i
		p.look(answers)
		p.way = append(p.way, answers...)
		return
	}
	for _, s := range p.sides {
		p.do(s, step{"Take", m})
	}
}

// step does one thing, whichever.
func (p *play) step() {
	s := p.sides[p.r.Intn(len(p.sides))]
	switch n := p.r.Intn(100); {
	case n < 6:
		p.do(s, beginning)
	case n < 12:
		p.do(s, step{call: "Tick"})
	case len(p.way) > 0:
		i := p.r.Intn(len(p.way))
		m, lot := p.way[i], p.r.Intn(100)
		if lot >= p.lossy { // below: it is doubled, one of it stays under way
			p.way = slices.Delete(p.way, i, i+1)
		}
		if lot < 100-p.lossy { // above: it is lost
			p.deliver(m)
		}
	}
}

// ends are how the proposers of plays came to their ends, and how often their ballots were raised.
type ends map[string]int

func (e ends) count(p *play) {
	for _, s := range p.sides {
		w := s.words
		switch {
		case w.end == "decided" && w.command != w.own:
			e["another's"]++
		case w.end == "decided":
			e["its own"]++
		case w.end == "":
			e["pending"]++
		default:
			e[w.end]++
		}
		if w.stage != ahead && len(w.noted) > 0 {
			e["refused"]++
		}
	}
}

// found plays at random, and tells the first fault.
func found(wrong string, f, plays int, e ends) string {
	for n := range plays {
		p := newPlay(int64(n)*7+int64(f), f, wrong)
		for range 40 + p.r.Intn(150*(f+1)) {
			p.step()
			if p.fault != "" {
				return fmt.Sprintf("F %d, play %d: %s", f, n, p.fault)
			}
		}
		e.count(p)
	}
	return ""
}

func TestP911RandomPlays(t *testing.T) {
	t.Parallel()
	for f := range api.MaxF + 1 {
		e := ends{}
		if fault := found("", f, 2000, e); fault != "" {
			t.Fatal(fault)
		}
		for _, kind := range []string{"its own", "another's", "pending", "worn", "refused"} {
			if e[kind] < 50 {
				t.Errorf("F %d: too few of a kind to tell: %v", f, e)
			}
		}
	}
}

func TestP911WrongRulesAreFoundOut(t *testing.T) {
	t.Parallel()
	for _, wrong := range wrongs() {
		if fault := found(wrong, 1, 200000, ends{}); fault == "" {
			t.Errorf("%s: no play tells a fault", wrong)
		}
	}
}

// hand brings one of these messages to an acceptor, and the answer back; it tells what the proposer tells then.
func (p *play) hand(s *side, list []api.Msg, to int) []api.Msg {
	i := slices.IndexFunc(list, func(m api.Msg) bool { return m.To.Id == to })
	instance, answers := answered(p.at[to], list[i])
	p.at[to] = instance
	list = nil
	for _, m := range answers {
		list = s.do(step{"Take", m})
	}
	p.hold()
	return list
}

// late plays what random plays hardly come to: an MAccept of the first proposer is late, the ballot of which was refused meanwhile. It tells the fault, if there is one.
func late(wrong string) string {
	p := &play{at: map[int]api.Instance{}, servers: []int{1, 2, 3}}
	for client, ballot := range []int{2, 3, 1} {
		of := plain{client: client + 1, op: 4, key: key, group: p.servers, ballot: ballot, round: 1, wrong: wrong}
		of.own = api.Command{Kind: api.CCreate, Client: client + 1, Op: 4, Name: "of " + strconv.Itoa(client+1)}
		p.sides = append(p.sides, newSide(of))
	}
	one, two, three := p.sides[0], p.sides[1], p.sides[2]
	list := three.do(beginning)
	p.hand(three, list, 1)
	p.hand(three, p.hand(three, list, 3), 3) // 3 alone has accepted the third one's command
	list = one.do(beginning)
	p.hand(one, list, 1)
	old := p.hand(one, list, 2)
	higher := two.do(beginning)
	p.hand(two, higher, 1)
	p.hand(one, old, 1) // refused
	list = one.do(step{call: "Tick"})
	p.hand(one, list, 2)
	list = p.hand(one, list, 3)
	p.hand(one, list, 2)
	p.hand(one, list, 3)
	if c, is := one.words.Decided(); !is || c != three.words.own {
		return fmt.Sprintf("the first one tells %v, %v as decided", c, is)
	}
	p.hand(one, old, 2)
	if list = p.hand(two, higher, 2); len(list) == 0 {
		list = two.do(step{call: "Tick"})
		p.hand(two, list, 1)
		list = p.hand(two, list, 2)
	}
	p.hand(two, list, 1)
	p.hand(two, list, 2)
	if _, is := two.words.Decided(); !is && p.fault == "" {
		return "the second one comes to no decision"
	}
	return p.fault
}

func TestP911LateAcceptOfARefusedBallot(t *testing.T) {
	if fault := late(""); fault != "" {
		t.Error(fault)
	}
	if fault := late("the same ballot again"); !strings.HasPrefix(fault, "two commands are decided") {
		t.Errorf("a ballot that does not rise is not found out: %s", fault)
	}
}

// exchange is one of a proposer with the acceptors that answer; one that has not begun begins with it.
func (p *play) exchange(s *side, up []int) {
	if s.words.stage == ahead {
		p.do(s, beginning)
	} else {
		p.do(s, step{call: "Tick"})
	}
	var answers []api.Msg
	asked := p.way
	p.way = nil
	for _, m := range asked {
		if !slices.Contains(up, m.To.Id) {
			continue
		}
		i, list := answered(p.at[m.To.Id], m)
		p.at[m.To.Id] = i
		answers = append(answers, list...)
	}
	for _, m := range answers {
		p.do(s, step{"Take", m})
	}
}

// alive takes a proposer to its end by exchanges, and tells how many that took, and how many P912 allows.
func (p *play) alive(s *side, up []int) (took, allowed int) {
	p.way = nil
	began, refused, noted := s.words.stage == ahead, s.words.refused(), len(s.words.noted)
	for s.words.stage != over && took < 9 {
		p.exchange(s, up)
		took++
	}
	switch {
	case !refused && len(s.words.noted) == noted:
		return took, 2
	case began:
		return took, 3
	}
	return took, 4
}

// some are acceptors that answer: at least need of them.
func (p *play) some() []int {
	var up []int
	for _, i := range p.r.Perm(len(p.servers))[:p.need()+p.r.Intn(len(p.servers)-p.need()+1)] {
		up = append(up, p.servers[i])
	}
	return up
}

// lived plays up to some state, and takes proposers to their ends from there; it tells the first fault.
func lived(wrong string, f, plays int, seen map[[2]int]int) string {
	for n := range plays {
		p := newPlay(int64(n)*11+int64(f), f, wrong)
		for range p.r.Intn(120 * (f + 1)) {
			p.step()
		}
		for _, i := range p.r.Perm(len(p.sides)) {
			s := p.sides[i]
			if s.words.stage == over {
				continue
			}
			took, allowed := p.alive(s, p.some())
			seen[[2]int{took, allowed}]++
			if took > allowed {
				return fmt.Sprintf("F %d, play %d: it took %d exchanges, and %d are allowed", f, n, took, allowed)
			}
		}
		if p.fault != "" {
			return p.fault
		}
	}
	return ""
}

func TestP912Alive(t *testing.T) {
	t.Parallel()
	seen := map[[2]int]int{}
	for f := range api.MaxF + 1 {
		if fault := lived("", f, 2000, seen); fault != "" {
			t.Fatal(fault)
		}
	}
	for _, kind := range [][2]int{{1, 2}, {2, 2}, {3, 3}, {3, 4}, {4, 4}} {
		if seen[kind] < 20 {
			t.Errorf("too few of a kind to tell: %v", seen)
		}
	}
}

func TestP912SlowRulesAreFoundOut(t *testing.T) {
	for _, wrong := range slow() {
		if fault := lived(wrong, 1, 20000, map[[2]int]int{}); fault == "" {
			t.Errorf("%s: no proposer takes too long", wrong)
		}
	}
}

// With one acceptor less than needed nothing ends, however often they are asked.
func TestP912LessThanNeed(t *testing.T) {
	for f := range api.MaxF + 1 {
		p := newPlay(1, f, "")
		s := newSide(plain{client: 9, op: 4, key: key, group: p.servers, own: x, ballot: 1, round: 1})
		for range 5 {
			p.exchange(s, p.servers[:p.need()-1])
		}
		if s.words.stage == over || s.fault != "" {
			t.Fatalf("with %d of %d acceptors: %+v, %s", p.need()-1, len(p.servers), toldBy(s.words), s.fault)
		}
	}
}
