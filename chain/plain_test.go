package chain_test

import (
	"iter"
	"slices"

	"cairn/api"
	"cairn/bucket"
	"cairn/chain"
	"cairn/proposer"
)

// plain is a chain by the chapter's words alone: all its proposers are kept, and all that it learned, and they are gone through for each question.
type plain struct {
	client, number int
	group          []int
	room           int

	made    []*proposer.Proposer // the last one is the present one
	base    api.Bucket           // the last trimmed bucket that it took over
	row     []api.Command        // what was decided behind that
	news    []item               // all that there ever was
	told    int                  // so much of it
	command api.Command
	stands  string // "", "pending", "done"
	result  api.Result
	by      string // how it came to its result

	wrong string // a rule that is broken on purpose; "": none
}

// usual is one like those of most tests.
func usual() *plain { return &plain{client: client, number: number, group: group(), room: room} }

// real is the chain that is handed the same.
func (p *plain) real() *chain.Chain { return chain.New(p.client, p.number, p.group, p.room) }

func (p *plain) Bucket() api.Bucket {
	space := p.room
	if p.wrong == "room for all" {
		space = 1 << 30
	}
	b, _, _ := bucket.Replay(p.base, space, p.row...)
	return b
}

// answer is what the last command of the row is answered.
func (p *plain) answer() api.Answer {
	_, answers, _ := bucket.Replay(p.base, p.room, p.row...)
	return answers[len(answers)-1]
}

func (p *plain) finish(by string, r api.Result) { p.stands, p.by, p.result = "done", by, r }

func (p *plain) present() *proposer.Proposer { return p.made[len(p.made)-1] }

func (p *plain) Begin(x api.Command, ballot, round int) []api.Msg {
	if p.stands == "pending" {
		return nil
	}
	p.stands, p.command, p.result = "pending", x, api.Result{}
	return p.goOn(p.propose(ballot, round))
}

func (p *plain) propose(ballot, round int) []api.Msg {
	u := p.Bucket().Upto
	if u == 1<<20 {
		p.finish("instance", api.Result{Err: api.ErrWorn})
		return nil
	}
	if p.wrong == "an instance is left out" && u%3 == 2 {
		u++
	}
	k := api.Key{Kind: api.KInstance, A: p.number, B: u + 1}
	p.made = append(p.made, proposer.New(p.client, p.command.Op, k, p.group, p.command, ballot, round))
	return p.present().Begin()
}

func (p *plain) Take(m api.Msg) []api.Msg {
	if p.stands != "pending" {
		return nil
	}
	return p.goOn(p.present().Take(m))
}

func (p *plain) Tick() []api.Msg {
	if p.stands != "pending" {
		return nil
	}
	return p.goOn(p.present().Tick())
}

// goOn is what follows behind each of these calls.
func (p *plain) goOn(list []api.Msg) []api.Msg {
	for p.stands == "pending" {
		now := p.present()
		command, isDecided := now.Decided()
		b, isTrimmed := now.Trimmed()
		switch {
		case now.Worn():
			p.finish("number", api.Result{Err: api.ErrWorn})
		case isDecided:
			p.decided(command)
		case isTrimmed:
			p.trimmed(b)
		default:
			return list
		}
		if p.stands == "pending" {
			list = append(list, p.propose(now.Ballot()+1, now.Round()+1)...)
		}
	}
	return list
}

func (p *plain) decided(c api.Command) {
	u := p.Bucket().Upto
	if p.wrong == "what is decided is not learned" {
		return
	}
	p.row = append(p.row, c)
	p.news = append(p.news, item{u + 1, c})
	own := c.Client == p.command.Client && c.Op == p.command.Op
	switch p.wrong {
	case "another's command of that Op":
		own = c.Op == p.command.Op
	case "another's command of that Name":
		own = own || c.Name == p.command.Name && c.Kind == p.command.Kind
	}
	if own {
		a := p.answer()
		p.finish("decided", api.Result{Err: a.Err, Entry: a.Entry, List: a.List, Instance: u + 1})
	}
}

func (p *plain) trimmed(b api.Bucket) {
	if b.Upto > p.Bucket().Upto && p.wrong != "no bucket is taken over" {
		p.base, p.row = b, nil
	}
	for _, l := range b.Lasts {
		own := l.Client == p.client && l.Op == p.command.Op
		switch p.wrong {
		case "no Last is looked at":
			own = false
		case "any Last of its own":
			own = l.Client == p.client
		case "any Last of that Op":
			own = l.Op == p.command.Op
		}
		if !own {
			continue
		}
		r := api.Result{Err: l.Err, Entry: api.Entry{Name: p.command.Name, File: l.File, Size: l.Size}, Instance: l.Instance}
		if l.Err == api.ErrNotFound || l.Err == api.ErrRoom {
			r.Entry = api.Entry{}
		}
		if p.wrong == "the bucket's instance" {
			r.Instance = b.Upto
		}
		p.finish("Last", r)
		return
	}
}

func (p *plain) Done() (api.Result, bool) {
	if p.stands != "done" {
		return api.Result{}, false
	}
	return p.result, true
}

func (p *plain) News() iter.Seq2[int, api.Command] {
	rest := slices.Clone(p.news[p.told:])
	p.told = len(p.news)
	return func(yield func(int, api.Command) bool) {
		for _, n := range rest {
			if !yield(n.instance, n.command) {
				return
			}
		}
	}
}

func (p *plain) Ballot() int {
	greatest := 0
	for _, m := range p.made {
		greatest = max(greatest, m.Ballot())
	}
	return greatest
}

func (p *plain) Round() int {
	greatest := 0
	for _, m := range p.made {
		greatest = max(greatest, m.Round())
	}
	return greatest
}

// wrongs are rules by which what P1108 says is broken: a play that does not find them out would say nothing of the right ones.
func wrongs() []string {
	return []string{
		"room for all", "an instance is left out", "another's command of that Op", "another's command of that Name",
		"no Last is looked at", "any Last of its own", "any Last of that Op", "the bucket's instance",
	}
}

// slow are rules by which nothing false is told, but a chain comes to no end.
func slow() []string { return []string{"what is decided is not learned", "no bucket is taken over"} }
