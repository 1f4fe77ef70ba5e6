package chain

import (
	"cairn/api"
	"cairn/bucket"
	"cairn/proposer"
)

// propose brings x to the first instance that was not learned.
func (c *Chain) propose(x api.Command, ballot, round int) []api.Msg {
	if c.bucket.Upto >= api.MaxInstance {
		return c.end(api.Result{Err: api.ErrWorn})
	}
	k := api.Key{Kind: api.KInstance, A: c.number, B: c.bucket.Upto + 1}
	c.stand = proposed{command: x, proposer: proposer.New(c.client, x.Op, k, c.group, x, ballot, round)}
	return c.ask((*proposer.Proposer).Begin)
}

// ask makes a call of the pending command's proposer, and looks what came of it.
func (c *Chain) ask(call func(*proposer.Proposer) []api.Msg) []api.Msg {
	now, busy := pending(c.stand)
	if !busy {
		return nil
	}
	told := call(now.proposer)
	return append(told, c.follow(now)...)
}

// follow takes up what the proposer has come to: it tells what is told where the command is proposed anew.
func (c *Chain) follow(now proposed) []api.Msg {
	p := now.proposer
	c.ballot, c.round = max(c.ballot, p.Ballot()), max(c.round, p.Round())
	if p.Worn() {
		return c.end(api.Result{Err: api.ErrWorn})
	}
	if y, ok := p.Decided(); ok {
		return c.decided(now, y)
	}
	if b, ok := p.Trimmed(); ok {
		return c.trimmed(now, b)
	}
	return nil
}

// decided learns the next instance's command: the pending one, or another that came ahead of it.
func (c *Chain) decided(now proposed, y api.Command) []api.Msg {
	next, answer, err := bucket.Apply(c.bucket, y, c.room)
	if err != api.OK {
		// Only of what is no command: to propose anew would bring one's own such command there for ever.
		return c.end(api.Result{Err: err})
	}
	c.bucket = next
	c.news = append(c.news, learned{next.Upto, y})
	if y.Client == now.command.Client && y.Op == now.command.Op {
		return c.end(api.Result{Err: answer.Err, Entry: answer.Entry, List: answer.List, Instance: next.Upto})
	}
	return c.anew(now)
}

// trimmed takes over a bucket in which instances are forgotten: the pending command may be one of these.
func (c *Chain) trimmed(now proposed, b api.Bucket) []api.Msg {
	if b.Upto > c.bucket.Upto {
		c.bucket = b
	}
	l, there := bucket.Last(b, c.client)
	if !there || l.Op != now.command.Op {
		return c.anew(now)
	}
	r := api.Result{Err: l.Err, Instance: l.Instance}
	if l.Err != api.ErrNotFound && l.Err != api.ErrRoom {
		r.Entry = api.Entry{Name: now.command.Name, File: l.File, Size: l.Size}
	}
	return c.end(r)
}

// anew proposes the pending command where the chain has come to, above all numbers that its proposer knows.
func (c *Chain) anew(now proposed) []api.Msg {
	return c.propose(now.command, now.proposer.Ballot()+1, now.proposer.Round()+1)
}

// end is the pending command's; nothing is told with it.
func (c *Chain) end(r api.Result) []api.Msg {
	c.stand = idle{result: r, begun: true}
	return nil
}
