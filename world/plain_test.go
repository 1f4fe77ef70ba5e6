package world_test

import (
	"bytes"
	"reflect"
	"slices"

	"cairn/api"
	"cairn/client"
	"cairn/disk"
	"cairn/file"
	"cairn/msg"
	"cairn/server"
)

// plain is a world by the chapter's words: lists that are gone through, no goroutines. If wrong says so, one of its rules is broken.
type plain struct {
	c       api.Config
	wrong   string
	disks   map[int]*disk.Disk
	servers map[int]*server.Server
	quotas  map[int]int // by server, if there was an EQuota for it
	users   map[int]*file.User
	stopped map[int]bool
	lines   []api.Line
	sent    map[api.Addr]int
	row     []api.Packet // what is under way
	arms    map[int]int  // by server, how it was armed; wrong rules alone look there
	tears   map[int]api.Event
}

func newPlain(h hall, wrong string) *plain {
	p := &plain{
		c: h.c, wrong: wrong, disks: map[int]*disk.Disk{}, servers: map[int]*server.Server{}, quotas: map[int]int{},
		users: map[int]*file.User{}, stopped: map[int]bool{}, sent: map[api.Addr]int{}, arms: map[int]int{}, tears: map[int]api.Event{},
	}
	for _, id := range h.c.Servers {
		p.disks[id], _ = disk.New(h.sectors)
		p.servers[id], _ = server.New(h.c, id, p.disks[id])
	}
	for _, id := range h.clients {
		by, _ := client.New(h.c, id)
		p.users[id] = file.New(by, p.note)
	}
	return p
}

func (p *plain) is(wrong string) bool { return p.wrong == wrong }

// note is told each line.
func (p *plain) note(l api.Line) {
	if l.Kind == api.HLearn {
		at := slices.IndexFunc(p.lines, func(o api.Line) bool {
			switch {
			case p.is("a bucket is learned once"):
				return o.Kind == api.HLearn && o.Key.A == l.Key.A
			case p.is("an instance's number is learned once"):
				return o.Kind == api.HLearn && o.Key.B == l.Key.B
			case p.is("every HLearn stays"):
				return false
			}
			return o.Kind == api.HLearn && o.Key == l.Key
		})
		switch {
		case p.is("no HLearn"):
			return
		case at >= 0 && p.is("the last HLearn stays"):
			p.lines = slices.Delete(p.lines, at, at+1)
		case at >= 0:
			return
		}
	}
	if p.is("parts make no lines") && (l.Kind == api.HBegin || l.Kind == api.HEnd) {
		return
	}
	p.lines = append(p.lines, l)
}

// rowNames are the fields that the table's rows name.
func rowNames(kind int) []string {
	return map[int][]string{
		api.EInvoke: {"Client", "Op"}, api.EDeliver: {"Addr", "N"}, api.ELose: {"Addr", "N"}, api.EDouble: {"Addr", "N"}, api.ETick: {"Client"},
		api.EFall: {"Server", "N"}, api.ETear: {"Server", "N", "Torn"}, api.EStart: {"Server"}, api.EStop: {"Client"}, api.ETrim: {"Server", "N", "Upto"},
		api.EMend: {"Server", "Other", "Key"}, api.EQuota: {"Server", "N"}, api.EJunk: {"Server", "Data"},
	}[kind]
}

// zero: an empty list is one.
func zero(v reflect.Value) bool {
	switch v.Kind() {
	case reflect.Slice:
		return v.Len() == 0
	case reflect.Struct:
		for i := range v.NumField() {
			if !zero(v.Field(i)) {
				return false
			}
		}
		return true
	}
	return v.IsZero()
}

// noEvent tells whether the words of ErrEvent apply.
func (p *plain) noEvent(e api.Event) bool {
	row := rowNames(e.Kind)
	if row == nil && !p.is("kinds are not looked at") && !(p.is("14 is a kind") && e.Kind == 14) {
		return true
	}
	if e.N < 0 && !p.is("N may be below 0") || e.Torn < 0 && !p.is("Torn may be below 0") || e.Upto < 0 && !p.is("Upto may be below 0") {
		return true
	}
	v := reflect.ValueOf(e)
	for i := range v.NumField() {
		name := v.Type().Field(i).Name
		if name != "Kind" && !slices.Contains(row, name) && !zero(v.Field(i)) && !p.is("a stray "+name+" is passed over") {
			return true
		}
	}
	return false
}

// noAddr tells whether the words of ErrAddr apply.
func (p *plain) noAddr(e api.Event) bool {
	row := rowNames(e.Kind)
	_, server := p.servers[e.Server]
	_, client := p.users[e.Client]
	_, other := p.servers[e.Other]
	return slices.Contains(row, "Server") && !server || slices.Contains(row, "Client") && !client ||
		p.is("Other is looked at first") && e.Kind == api.EMend && !other
}

func (p *plain) judge(e api.Event) api.Errno {
	_, err := msg.Decode(e.Data, p.c)
	message := e.Kind == api.EJunk && err == api.OK
	if p.is("a message is junk") || p.is("junk is not looked at where it is down") && p.servers[e.Server] != nil && !p.Up(e.Server) {
		message = false
	}
	switch {
	case p.is("ErrAddr comes first") && p.noAddr(e):
		return api.ErrAddr
	case p.noEvent(e):
		return api.ErrEvent
	case p.is("junk is looked at first") && message:
		return api.ErrEvent
	case p.is("ErrArg for ErrAddr") && p.noAddr(e):
		return api.ErrArg
	case p.noAddr(e):
		return api.ErrAddr
	case message:
		return api.ErrEvent
	}
	return api.OK
}

func (p *plain) Do(e api.Event) api.Errno {
	if err := p.judge(e); err != api.OK {
		return err
	}
	switch e.Kind {
	case api.EInvoke, api.ETick, api.EStop:
		return p.doClient(e)
	case api.EDeliver:
		at, err := p.named(e)
		if err != api.OK {
			return err
		}
		q := p.row[at]
		if !p.is("what is delivered stays") {
			p.row = slices.Delete(p.row, at, at+1)
		}
		return p.hand(q)
	case api.ELose:
		return p.lose(e)
	case api.EDouble:
		return p.double(e)
	}
	return p.doServer(e)
}

func (p *plain) Play(l []api.Event) []api.Errno {
	var all []api.Errno
	for _, e := range l {
		all = append(all, p.Do(e))
	}
	return all
}

// named is where the first packet of a name stands.
func (p *plain) named(e api.Event) (int, api.Errno) {
	at := slices.IndexFunc(p.row, func(q api.Packet) bool { return q.From == e.Addr && q.Count == e.N })
	if p.is("names are of ids") {
		at = slices.IndexFunc(p.row, func(q api.Packet) bool { return q.From.Id == e.Addr.Id && q.Count == e.N })
	}
	switch {
	case at < 0 && p.is("a name that is not under way is an address that is none"):
		return 0, api.ErrAddr
	case at < 0:
		return 0, api.ErrPacket
	}
	return at, api.OK
}

func (p *plain) lose(e api.Event) api.Errno {
	at, err := p.named(e)
	if err != api.OK {
		return err
	}
	p.row = slices.Delete(p.row, at, at+1)
	if p.is("all of a name are lost") {
		p.row = slices.DeleteFunc(p.row, func(q api.Packet) bool { return q.From == e.Addr && q.Count == e.N })
	}
	return api.OK
}

func (p *plain) double(e api.Event) api.Errno {
	at, err := p.named(e)
	if err != api.OK {
		return err
	}
	q := p.row[at]
	switch {
	case p.is("what is doubled has a name of its own"):
		p.send([]api.Packet{q})
	case p.is("what is doubled moves"):
		p.row = append(slices.Delete(p.row, at, at+1), q)
	case p.full(q):
	default:
		p.row = append(p.row, q)
	}
	return api.OK
}

// full tells whether there is no room for a packet on its way.
func (p *plain) full(q api.Packet) bool {
	n := 0
	for _, x := range p.row {
		if x.From == q.From && x.To == q.To {
			n++
		}
	}
	most := 64
	switch {
	case p.is("63 are the most"):
		most = 63
	case p.is("65 are the most"):
		most = 65
	}
	return n >= most
}

func (p *plain) send(all []api.Packet) {
	if p.is("packets are sent from the last on") {
		slices.Reverse(all)
	}
	for _, q := range all {
		p.sent[q.From]++
		q.Count = p.sent[q.From]
		if p.is("counts are of all") {
			q.Count = 0
			for _, n := range p.sent {
				q.Count += n
			}
		}
		if p.is("nothing is sent to one that is down") && !q.To.Client && !p.Up(q.To.Id) {
			continue
		}
		if !p.full(q) {
			q.Data = bytes.Clone(q.Data)
			p.row = append(p.row, q)
		}
	}
}

// hand is P1703.
func (p *plain) hand(q api.Packet) api.Errno {
	_, isServer := p.servers[q.To.Id]
	if q.To.Client && !(p.is("addresses are ids") && isServer) {
		u, there := p.users[q.To.Id]
		if there && p.stopped[q.To.Id] && p.is("a client that has fallen leaves it under way") {
			p.row = append(p.row, q)
		}
		if there {
			if all := u.Step(q.Data); !p.is("what a client sends at an answer is lost") {
				p.send(all)
			}
		}
		return api.OK
	}
	switch {
	case p.Up(q.To.Id):
		all := p.servers[q.To.Id].Step(q.Data)
		p.behind(q.To.Id)
		if !p.is("what a server answers is lost") {
			p.send(all)
		}
	case p.is("one that is down leaves it under way"):
		p.row = append(p.row, q)
	case p.is("to one that is down is refused"):
		return api.ErrFallen
	}
	return api.OK
}

// behind is where a fall may have been; wrong rules alone look there.
func (p *plain) behind(id int) {
	if !p.servers[id].Fallen() {
		return
	}
	switch {
	case p.is("a fall loses what it has sent"):
		p.row = slices.DeleteFunc(p.row, func(q api.Packet) bool { return q.From == node(id) })
	case p.is("a fall loses what goes to it"):
		p.row = slices.DeleteFunc(p.row, func(q api.Packet) bool { return q.To == node(id) })
	case p.is("who falls is up again"):
		p.start(id)
	}
}

func (p *plain) doClient(e api.Event) api.Errno {
	u := p.users[e.Client]
	switch e.Kind {
	case api.EInvoke:
		all, err := u.Invoke(e.Op)
		if p.is("an invocation is OK") {
			err = api.OK
		}
		if p.is("an invocation sends nothing") {
			all = nil
		}
		p.send(all)
		return err
	case api.ETick:
		all := u.Tick()
		if p.is("a tick sends nothing") {
			all = nil
		}
		p.send(all)
	case api.EStop:
		if p.is("a second EStop is refused") && p.stopped[e.Client] {
			return api.ErrFallen
		}
		if !p.is("EStop does nothing") {
			u.Stop()
		}
		p.stopped[e.Client] = true
		if p.is("a stop loses what it has sent") {
			p.row = slices.DeleteFunc(p.row, func(q api.Packet) bool { return q.From == user(e.Client) })
		}
	}
	return api.OK
}

func (p *plain) doServer(e api.Event) api.Errno {
	switch {
	case e.Kind == api.EQuota:
		return p.quota(e)
	case e.Kind == api.EStart:
		if !p.Up(e.Server) || p.is("EStart starts one that is up") {
			p.start(e.Server)
		} else if p.is("EStart of one that is up is refused") {
			return api.ErrEvent
		}
		return api.OK
	case !p.Up(e.Server):
		return p.doDown(e)
	}
	return p.doUp(e)
}

func (p *plain) quota(e api.Event) api.Errno {
	was, there := p.quotas[e.Server]
	switch {
	case p.is("a quota of one that is down is refused") && !p.Up(e.Server):
		return api.ErrFallen
	case p.is("a quota of one that is down is lost") && !p.Up(e.Server):
		return api.OK
	case p.is("the first quota stays") && there:
		e.N = was
	case p.is("a quota never grows") && there:
		e.N = min(e.N, was)
	case p.is("a quota of 0 is none") && e.N == 0:
		e.N = api.MaxSectors
	case p.is("a quota counts from the next start on"):
		p.quotas[e.Server] = e.N
		return api.OK
	}
	p.quotas[e.Server] = e.N
	p.servers[e.Server].Limit(e.N)
	if p.is("a quota is everybody's") {
		for id, s := range p.servers {
			p.quotas[id] = e.N
			s.Limit(e.N)
		}
	}
	return api.OK
}

func (p *plain) start(id int) {
	d := p.disks[id]
	if p.is("a start has an empty disk") {
		p.disks[id], _ = disk.New(d.Sectors())
		d = p.disks[id]
	}
	if !p.is("a disk stays armed") || d.Fallen() {
		d.Start()
	}
	s, err := server.New(p.c, id, d)
	if err != api.OK {
		return
	}
	p.servers[id] = s
	if n, there := p.quotas[id]; there && !p.is("a quota goes with a fall") {
		s.Limit(n)
	}
	if n, there := p.arms[id]; there && p.is("an arm outlasts a fall") {
		s.Arm(n)
	}
	delete(p.arms, id)
	if e, there := p.tears[id]; there && p.is("a tear outlasts a fall") {
		d.Arm(e.N, e.Torn)
	}
	delete(p.tears, id)
}

// doDown: there nothing happens, but for wrong rules.
func (p *plain) doDown(e api.Event) api.Errno {
	switch {
	case e.Kind == api.EFall:
		if p.is("EFall of one that is down counts") {
			p.wrong = "an arm outlasts a fall"
			p.arms[e.Server] = e.N
		}
	case e.Kind == api.ETear:
		if p.is("ETear of one that is down counts") {
			p.wrong = "a tear outlasts a fall"
			p.tears[e.Server] = e
		}
	case e.Kind == api.ETrim && p.is("ETrim of one that is down is refused"), e.Kind == api.EMend && p.is("EMend of one that is down is refused"):
		return api.ErrFallen
	case e.Kind == api.ETrim && p.is("ETrim of one that is down looks at its bucket") && e.N >= p.c.Buckets:
		return api.ErrBucket
	case e.Kind == api.EMend && p.is("EMend of one that is down looks at its key") && e.Key.Kind == api.KInstance:
		return api.ErrKey
	case p.is("all is refused where it is down"):
		return api.ErrFallen
	}
	return api.OK
}

func (p *plain) doUp(e api.Event) api.Errno {
	s := p.servers[e.Server]
	defer p.behind(e.Server)
	switch e.Kind {
	case api.EFall:
		p.fall(e)
	case api.ETear:
		p.tears[e.Server] = e
		torn, writes := e.Torn, e.N
		if p.is("nothing of a torn write lies there") {
			torn = 0
		}
		if p.is("a tear is one write later") {
			writes++
		}
		p.disks[e.Server].Arm(writes, torn)
	case api.ETrim:
		_, err := s.Trim(e.N, e.Upto)
		if p.is("a trim is OK") || p.is("a trim at which it falls is OK") && err == api.ErrFallen {
			return api.OK
		}
		return err
	case api.EMend:
		all, err := s.Mend(e.Other, e.Key)
		if p.is("a mend sends nothing") {
			all = nil
		}
		p.send(all)
		if p.is("a mend is OK") {
			return api.OK
		}
		return err
	case api.EJunk:
		if !p.is("junk is not handed on") {
			p.send(s.Step(e.Data))
		}
	}
	return api.OK
}

func (p *plain) fall(e api.Event) {
	s := p.servers[e.Server]
	_, armed := p.arms[e.Server]
	switch {
	case p.is("the first EFall stays") && armed:
		return
	case p.is("EFall counts one more"):
		e.N++
	case p.is("EFall counts from 1 on"):
		e.N--
	case p.is("EFall is at once"):
		s.Arm(0)
		s.Step(nil)
		return
	case p.is("EFall is behind all records"):
		e.N = 1 << 20
	}
	p.arms[e.Server] = e.N
	s.Arm(e.N)
}
