package world_test

import (
	"cmp"
	"slices"

	"cairn/api"
	"cairn/disk"
	"cairn/server"
)

// What there is to see of a plain world.

func (p *plain) History() []api.Line {
	told := slices.Clone(p.lines)
	if p.is("lines of a client stand together") {
		slices.SortStableFunc(told, func(a, b api.Line) int { return cmp.Compare(a.Client, b.Client) })
	}
	return told
}

func (p *plain) Under() []api.Packet {
	told := slices.Clone(p.row)
	if p.is("Under goes by names") {
		slices.SortStableFunc(told, func(a, b api.Packet) int {
			return cmp.Or(cmp.Compare(a.From.Id, b.From.Id), cmp.Compare(a.Count, b.Count))
		})
	}
	return told
}

func (p *plain) Image(server int) ([]byte, api.Errno) {
	d, there := p.disks[server]
	switch {
	case !there && p.is("no image of a server that there is not"):
		return nil, api.OK
	case !there:
		return nil, api.ErrAddr
	case p.is("no image of one that is down") && !p.Up(server):
		return nil, api.ErrFallen
	case p.is("an image of one that is down is empty") && !p.Up(server):
		return make([]byte, len(d.Image())), api.OK
	}
	return d.Image(), api.OK
}

func (p *plain) Up(server int) bool {
	s, there := p.servers[server]
	switch {
	case !there:
		return p.is("who is not there is up")
	case p.is("who has a disk that stands is up"):
		return !p.disks[server].Fallen()
	}
	return !s.Fallen()
}

func (p *plain) Pending(client int) bool {
	u, there := p.users[client]
	if !there || p.is("nothing is pending behind EStop") && p.stopped[client] {
		return false
	}
	return u.Pending()
}

// held is who tells what a server holds; nil: nobody.
func (p *plain) held(id int) *server.Server {
	s, there := p.servers[id]
	if !there {
		return nil
	}
	if s.Fallen() && p.is("one that is down tells what it held") {
		d, _ := disk.Load(p.disks[id].Image())
		s, _ = server.New(p.c, id, d)
	}
	if p.is("the first server tells what all hold") {
		return p.servers[p.c.Servers[0]]
	}
	return s
}

func (p *plain) Block(server int, k api.Key) api.Block {
	if s := p.held(server); s != nil {
		return s.Block(k)
	}
	return api.Block{}
}

func (p *plain) Bucket(server, number int) api.Bucket {
	if s := p.held(server); s != nil {
		return s.Bucket(number)
	}
	return api.Bucket{}
}

func (p *plain) Instance(server int, k api.Key) api.Instance {
	if s := p.held(server); s != nil {
		return s.Instance(k)
	}
	return api.Instance{}
}

func (p *plain) Fair(client, exchanges int) int {
	u, there := p.users[client]
	switch {
	case !there && p.is("Fair of one that there is not is 0"):
		return 0
	case !there:
		return -1
	case p.is("exchanges are looked at first") && exchanges < 1:
		return -1
	case !u.Pending() && p.is("Fair of one that is done is -1"):
		return -1
	case !u.Pending():
		if p.is("Fair of one that is done loses all") {
			p.row = nil
		}
		return 0
	case p.is("Fair of one that has fallen does nothing") && p.stopped[client]:
		return -1
	case exchanges < 1:
		if p.is("Fair of no exchanges loses all") {
			p.row = nil
		}
		return -1
	}
	if !p.is("Fair loses nothing") {
		p.row = nil
	}
	if p.is("Fair forgets the counts") {
		p.sent = map[api.Addr]int{}
	}
	return p.exchanges(client, exchanges)
}

func (p *plain) exchanges(client, exchanges int) int {
	if p.is("Fair has one exchange more") {
		exchanges++
	}
	for n := range min(exchanges, 50) { // no row here asks for more where it matters
		p.exchange(client)
		switch {
		case p.users[client].Pending():
		case p.is("Fair counts one less"):
			return n
		default:
			return n + 1
		}
	}
	if p.is("Fair tells how many there were") {
		return exchanges
	}
	return -1
}

func (p *plain) exchange(client int) {
	if !p.is("Fair does not tick") {
		p.Do(tick(client))
	}
	p.deliverAll(client)
	switch {
	case p.is("Fair delivers once an exchange"):
		return
	case p.is("Fair delivers till nothing is under way"):
		for range 30 {
			p.deliverAll(client)
		}
	case p.is("Fair delivers three times an exchange"):
		p.deliverAll(client)
	}
	p.deliverAll(client)
}

func (p *plain) deliverAll(client int) {
	all := slices.Clone(p.row)
	if p.is("Fair delivers from the last on") {
		slices.Reverse(all)
	}
	for _, q := range all {
		if p.is("Fair leaves off at the return") && !p.users[client].Pending() {
			return
		}
		p.Do(deliver(q.From, q.Count))
	}
}
