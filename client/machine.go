package client

import (
	"cairn/api"
	"cairn/chain"
	"cairn/register"
)

// machine is what an operation is done by, a block or a directory: what these have in common.
type machine interface {
	Take(m api.Msg) []api.Msg
	Tick() []api.Msg
	Done() (api.Result, bool)
	Round() int
}

// block is a register, of this one operation.
type block struct{ machine }

// directory is a bucket's chain, of all operations there.
type directory struct {
	*chain.Chain
	number int
}

// begin makes or finds what the operation is done by, and tells the first messages.
func (c *Client) begin(o api.Op) []api.Msg {
	switch o.Kind {
	case api.ORead, api.OWrite:
		return c.beginBlock(o)
	}
	d := c.directory(c.bucketOf(o))
	c.by = d
	return d.Begin(c.command(o), c.ballot+1, c.round+1)
}

func (c *Client) beginBlock(o api.Op) []api.Msg {
	k := blockKey(o.File, o.N)
	group := c.group(k)
	m := register.Read(c.id, c.number, k, group, c.round+1, c.config.Block)
	if o.Kind == api.OWrite {
		m = register.Write(c.id, c.number, k, group, c.round+1, o.Data)
	}
	c.by = block{m}
	return m.Begin()
}

func (c *Client) directory(number int) directory {
	kept, there := c.chains[number]
	if !there {
		kept = chain.New(c.id, number, c.group(api.Key{Kind: api.KBucket, A: number}), c.config.Room)
		c.chains[number] = kept
	}
	return directory{kept, number}
}

// note takes up what a call has come to: what the next operation must begin above, and what was learned.
func (c *Client) note() {
	c.round = max(c.round, c.by.Round())
	switch by := c.by.(type) {
	case block: // it has no ballots, and learns no commands
	case directory:
		c.ballot = max(c.ballot, by.Ballot())
		// Taken up at each call: asked later on, chains could not tell which of them learned first.
		for instance, x := range by.News() {
			k := api.Key{Kind: api.KInstance, A: by.number, B: instance}
			c.news = append(c.news, learned{k, x})
		}
	}
}

// group is that of a key that an operation has named: no other one is asked for.
func (c *Client) group(k api.Key) []int {
	servers, _ := c.ring.Group(k)
	return servers
}

func blockKey(f api.File, index int) api.Key {
	return api.Key{Kind: api.KBlock, A: f.Client, B: f.Op, C: index}
}
