package register_test

import (
	"bytes"
	"math/rand"
	"slices"
	"strconv"
	"testing"

	"cairn/api"
	"cairn/register"
	"cairn/tally"
)

// run is one machine of a play, and when it began and ended, by the play's count of steps.
type run struct {
	machine      tally.Machine
	write        bool
	client, size int
	began, ended int // ended 0: not at its end
	result       api.Result
	phases       int
}

// play is what 'What must hold' speaks of: servers that hold one block, machines that ask them, messages and answers under way.
type play struct {
	r       *rand.Rand
	servers []int
	held    map[int]api.Block
	way     []api.Msg
	runs    []*run
	last    map[int]*run // by client
	stopped map[int]int  // clients that are asked nothing more, by when
	laid    map[api.Stamp]string
	steps   int
	lossy   int // of a hundred messages so many are lost, and as many doubled
}

func newPlay(seed int64, f int) *play {
	p := &play{
		r: rand.New(rand.NewSource(seed)), held: map[int]api.Block{},
		last: map[int]*run{}, stopped: map[int]int{}, laid: map[api.Stamp]string{},
	}
	for _, i := range p.r.Perm(2*f + 1) {
		p.servers = append(p.servers, 10*i+1)
	}
	p.lossy = oneOf(p.r, 0, 5, 20)
	return p
}

func (p *play) need() int { return len(p.servers)/2 + 1 }

// answer is what a server answers.
func (p *play) answer(m api.Msg) api.Msg {
	a := api.Msg{Kind: api.MAck, From: m.To, To: m.From, Op: m.Op, Round: m.Round, Key: m.Key}
	if m.Kind == api.MPut {
		p.held[m.To.Id], _ = register.Newer(p.held[m.To.Id], m.Stamp, m.Block)
		return a
	}
	b := p.held[m.To.Id]
	a.Kind, a.Stamp, a.Block = api.MValue, b.Stamp, b.Data
	return a
}

// send puts what a machine tells under way.
func (p *play) send(t *testing.T, x *run, list []api.Msg) {
	p.steps++
	for _, m := range list {
		if m.Kind == api.MPut && x.write {
			if block, there := p.laid[m.Stamp]; there && block != string(m.Block) {
				t.Fatalf("P709: two blocks are laid down with the tag %v", m.Stamp)
			}
			p.laid[m.Stamp] = string(m.Block)
		}
		if m.Kind == api.MPut {
			x.phases = 2
		}
		p.way = append(p.way, m)
	}
	if r, done := x.machine.Done(); done && x.ended == 0 {
		x.ended, x.result = p.steps, r
	}
}

// begin makes a machine of a client that has none that goes on, and begins it: its round is above all that this client used. (Its op need not be another one: rounds alone tell answers apart.)
func (p *play) begin(t *testing.T, client int, write bool) *run {
	from := oneOf(p.r, 1, 1, 1, api.MaxNum-9)
	number := 1
	if before := p.last[client]; before != nil {
		from = before.machine.Round() + 1 + p.r.Intn(2)
		number = 1 + p.r.Intn(2)
	}
	x := &run{write: write, client: client, size: oneOf(p.r, 2, 3), phases: 1}
	if write {
		x.machine = register.Write(client, number, key, p.servers, from, []byte("write "+strconv.Itoa(len(p.runs))))
	} else {
		x.machine = register.Read(client, number, key, p.servers, from, x.size)
	}
	p.runs = append(p.runs, x)
	p.last[client] = x
	x.began = p.steps + 1
	p.send(t, x, x.machine.Begin())
	return x
}

// goesOn tells whether a client's last machine is not at its end.
func (p *play) goesOn(client int) bool {
	x := p.last[client]
	return x != nil && x.ended == 0
}

// deliver hands one that was under way to whom it goes.
func (p *play) deliver(t *testing.T, m api.Msg) {
	if !m.To.Client {
		p.way = append(p.way, p.answer(m))
		return
	}
	if _, stopped := p.stopped[m.To.Id]; !stopped {
		for _, x := range p.runs { // the elder ones too: they must not move
			if x.client == m.To.Id {
				p.send(t, x, x.machine.Take(m))
			}
		}
	}
}

// step does one thing, whichever.
func (p *play) step(t *testing.T) {
	client := 1 + p.r.Intn(4)
	_, stopped := p.stopped[client]
	switch n := p.r.Intn(100); {
	case n < 12 && !stopped && !p.goesOn(client):
		p.begin(t, client, p.r.Intn(2) == 0)
	case n < 16 && !stopped && p.goesOn(client):
		p.send(t, p.last[client], p.last[client].machine.Tick())
	case n == 16 && p.r.Intn(4) == 0 && len(p.stopped) < 3:
		p.stopped[client] = p.steps
	case len(p.way) > 0:
		i := p.r.Intn(len(p.way))
		m, lot := p.way[i], p.r.Intn(100)
		if lot >= p.lossy { // below: it is doubled, one of it stays under way
			p.way = slices.Delete(p.way, i, i+1)
		}
		if lot < 100-p.lossy { // above: it is lost
			p.deliver(t, m)
		}
	}
}

// mustBeAtomic holds all that ended with OK against P709.
func (p *play) mustBeAtomic(t *testing.T) {
	var ok []*run
	for _, x := range p.runs {
		if x.ended > 0 && x.result.Err == api.OK {
			ok = append(ok, x)
		}
	}
	for i, x := range ok {
		for _, y := range ok[i+1:] {
			if x.write && y.write && x.result.Stamp == y.result.Stamp {
				t.Fatalf("P709: two Writes have the tag %v", x.result.Stamp)
			}
		}
		for _, y := range ok {
			if x.ended < y.began && (tally.Less(y.result.Stamp, x.result.Stamp) || y.write && y.result.Stamp == x.result.Stamp) {
				t.Fatalf("P709: the tag %v, and behind it %v (of a Write: %v)", x.result.Stamp, y.result.Stamp, y.write)
			}
		}
		p.mustHaveItsBlock(t, x)
	}
}

func (p *play) mustHaveItsBlock(t *testing.T, x *run) {
	if x.write {
		return
	}
	if x.result.Stamp == stamp(0, 0) {
		if !bytes.Equal(x.result.Data, make([]byte, x.size)) {
			t.Fatalf("P709: a Read of what nobody wrote: %q", x.result.Data)
		}
		return
	}
	if block, there := p.laid[x.result.Stamp]; !there || block != string(x.result.Data) {
		t.Fatalf("P709: a Read of the tag %v has %q; laid down was %q", x.result.Stamp, x.result.Data, block)
	}
}

func TestP709Atomic(t *testing.T) {
	seen := map[string]int{}
	for seed := range int64(6000) {
		p := newPlay(seed, int(seed%8)/2)
		for range 120 + p.r.Intn(200) {
			p.step(t)
		}
		p.mustBeAtomic(t)
		for _, x := range p.runs {
			switch {
			case x.ended == 0:
				seen["pending"]++
			case x.result.Err != api.OK:
				seen["worn"]++
			case x.write:
				seen["write"]++
			default:
				seen["read in "+strconv.Itoa(x.phases)]++
			}
		}
	}
	for _, kind := range []string{"pending", "worn", "write", "read in 1", "read in 2"} {
		if seen[kind] < 1000 {
			t.Fatalf("too few of a kind: %v", seen)
		}
	}
}

// Each of a row of machines ends ahead of the next one's Begin, by other servers each time, and finds what the one before left.
func TestP709OneBehindTheOther(t *testing.T) {
	for seed := range int64(500) {
		p := newPlay(seed, 1+int(seed%3))
		var tag api.Stamp
		for turn := range 12 {
			up := p.r.Perm(len(p.servers))[:p.need()]
			x := p.begin(t, 20+turn, p.r.Intn(2) == 0)
			p.way = nil
			p.exchange(t, x, up)
			p.exchange(t, x, up)
			if x.ended == 0 || x.result.Err != api.OK {
				t.Fatalf("turn %d: %v", turn, x.result)
			}
			if x.write {
				tag = stamp(tag.N+1, 20+turn)
			}
			if x.result.Stamp != tag {
				t.Fatalf("turn %d: the tag %v, not %v", turn, x.result.Stamp, tag)
			}
			p.mustHaveItsBlock(t, x)
		}
		p.mustBeAtomic(t)
	}
}

// A Write of which one server alone heard: whoever has read its block, all behind that read it too.
func TestP709ReadOfAHalfWrittenBlock(t *testing.T) {
	p := newPlay(1, 1)
	a, b, c := p.servers[0], p.servers[1], p.servers[2]
	x := p.begin(t, 1, true)
	p.way = nil
	p.exchange(t, x, []int{0, 1, 2})
	for _, m := range p.way { // of its puts one comes
		if m.To.Id == c {
			p.answer(m)
		}
	}
	p.way = nil
	reads := []struct {
		up   []int
		want string
	}{
		{[]int{0, 1}, string(make([]byte, 2))}, // those have not heard of it
		{[]int{1, 2}, "write 0"},
		{[]int{0, 1}, "write 0"}, // by what the read before laid down
		{[]int{0, 2}, "write 0"},
	}
	for i, c := range reads {
		m := register.Read(30+i, 1, key, p.servers, 1, 2)
		y := &run{machine: m, client: 30 + i, size: 2}
		p.runs = append(p.runs, y)
		p.send(t, y, m.Begin())
		p.way = nil
		p.exchange(t, y, c.up)
		p.exchange(t, y, c.up)
		if y.ended == 0 || string(y.result.Data) != c.want {
			t.Fatalf("read %d: %v", i, y.result)
		}
	}
	if p.held[b].Stamp != stamp(1, 1) || p.held[c].Stamp != stamp(1, 1) || p.held[a].Stamp != stamp(1, 1) {
		t.Fatalf("the servers hold %v", p.held)
	}
}

// exchange is one of a machine with the servers at these places; what goes to others is lost.
func (p *play) exchange(t *testing.T, x *run, up []int) {
	p.send(t, x, x.machine.Tick())
	asked, rest := p.split(func(m api.Msg) bool { return m.From == user(x.client) })
	p.way = rest
	for _, m := range asked {
		if slices.Contains(up, slices.Index(p.servers, m.To.Id)) {
			p.way = append(p.way, p.answer(m))
		}
	}
	answers, others := p.split(func(m api.Msg) bool { return m.To == user(x.client) })
	p.way = others
	for _, m := range answers {
		p.send(t, x, x.machine.Take(m))
	}
}

// split tells which of those under way are so, and which not.
func (p *play) split(so func(m api.Msg) bool) (these, others []api.Msg) {
	for _, m := range p.way {
		if so(m) {
			these = append(these, m)
		} else {
			others = append(others, m)
		}
	}
	return these, others
}

// From any state each machine that has begun is at its end behind two exchanges, with all that was under way lost or not.
func TestP710Alive(t *testing.T) {
	count := 0
	for seed := range int64(4000) {
		p := newPlay(seed, int(seed%8)/2)
		for range p.r.Intn(150) {
			p.step(t)
		}
		for _, i := range p.r.Perm(len(p.runs)) {
			x := p.runs[i]
			if x.ended > 0 {
				continue
			}
			count++
			if seed%3 > 0 {
				p.way = nil
			}
			up := p.r.Perm(len(p.servers))[:p.need()+p.r.Intn(len(p.servers)-p.need()+1)]
			p.exchange(t, x, up)
			p.exchange(t, x, up)
			if x.ended == 0 {
				t.Fatalf("P710: seed %d: behind two exchanges with %v it is not at its end", seed, up)
			}
		}
		p.mustBeAtomic(t)
	}
	if count < 1000 {
		t.Fatalf("only %d machines were under way", count)
	}
}

// A Read that finds one tag at all that answer is at its end behind one exchange; else behind two.
func TestP710ReadOfOneTag(t *testing.T) {
	seen := map[bool]int{}
	for seed := range int64(3000) {
		p := newPlay(seed, int(seed%8)/2)
		for range p.r.Intn(150) {
			p.step(t)
		}
		up := p.r.Perm(len(p.servers))[:p.need()]
		alike := true
		for _, i := range up {
			alike = alike && p.held[p.servers[i]].Stamp == p.held[p.servers[up[0]]].Stamp
		}
		p.way = nil
		x := p.begin(t, 50, false)
		p.exchange(t, x, up)
		if (x.ended > 0 && x.result.Err == api.OK) != alike {
			t.Fatalf("P710: seed %d: at its end behind one exchange: %v; one tag: %v", seed, x.ended > 0, alike)
		}
		seen[alike]++
		p.exchange(t, x, up)
		if x.ended == 0 {
			t.Fatalf("P710: seed %d: behind two exchanges it is not at its end", seed)
		}
		p.mustBeAtomic(t)
	}
	if seen[true] < 300 || seen[false] < 300 {
		t.Fatalf("too few of a kind: %v", seen)
	}
}

// With one server less than a majority nothing ends, however often it is asked.
func TestP710LessThanAMajority(t *testing.T) {
	for f := range 4 {
		for _, write := range []bool{true, false} {
			p := newPlay(1, f)
			x := p.begin(t, 1, write)
			up := p.r.Perm(len(p.servers))[:p.need()-1]
			for range 5 {
				p.exchange(t, x, up)
			}
			if x.ended > 0 {
				t.Fatalf("with %d of %d servers it is at its end: %v", len(up), len(p.servers), x.result)
			}
		}
	}
}
