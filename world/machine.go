package world

import (
	"cairn/api"
	"cairn/client"
	"cairn/disk"
	"cairn/file"
	"cairn/net"
	"cairn/server"
)

// machine is a server's post, a client's seat, or the way. What it has nobody else changes; what is everybody's (the history) it leaves to who hands it its tasks.
type machine interface {
	do(t task) answer
}

// task is an event of the machine (of whom a packet is delivered to, its Data are the packet's); of the way also packets that are to be sent.
type task struct {
	api.Event
	send []api.Packet
}

// answer is what a task has come to. The packets are to be sent; those of the way are delivered.
type answer struct {
	err     api.Errno
	packets []api.Packet
	lines   []api.Line
}

// post is where a server stands, up or down: its disk and its quota outlast it.
type post struct {
	config api.Config
	id     int
	disk   *disk.Disk
	server *server.Server
	quota  int
}

func newPost(c api.Config, id, sectors int) (*post, api.Errno) {
	d, err := disk.New(sectors)
	if err != api.OK {
		return nil, err
	}
	p := &post{config: c, id: id, disk: d, quota: api.MaxSectors} // no disk has more: so there is none
	return p, p.start()
}

// start is a new server over the disk; if that can't be, what there was stays.
func (p *post) start() api.Errno {
	p.disk.Start()
	s, err := server.New(p.config, p.id, p.disk)
	if err != api.OK {
		return err
	}
	p.server = s
	p.server.Limit(p.quota)
	return api.OK
}

func (p *post) up() bool { return !p.server.Fallen() }

func (p *post) do(t task) answer {
	switch {
	case t.Kind == api.EQuota:
		p.quota = t.N
		p.server.Limit(t.N)
	case t.Kind == api.EStart && !p.up():
		p.start() // an error is nobody's to hear: it stays down
	case p.up():
		return p.step(t)
	}
	return answer{}
}

// step is a task of a server that is up.
func (p *post) step(t task) answer {
	var a answer
	switch t.Kind {
	case api.EDeliver, api.EJunk:
		a.packets = p.server.Step(t.Data)
	case api.EFall:
		p.server.Arm(t.N)
	case api.ETear:
		p.disk.Arm(t.N, t.Torn)
	case api.ETrim:
		_, a.err = p.server.Trim(t.N, t.Upto)
	case api.EMend:
		a.packets, a.err = p.server.Mend(t.Other, t.Key)
	}
	return a
}

// seat is where a client sits.
type seat struct {
	user  *file.User
	lines []api.Line // those of the present task
}

func newSeat(c api.Config, id int) (*seat, api.Errno) {
	by, err := client.New(c, id)
	if err != api.OK {
		return nil, err
	}
	s := &seat{}
	s.user = file.New(by, func(l api.Line) { s.lines = append(s.lines, l) })
	return s, api.OK
}

func (s *seat) do(t task) answer {
	var a answer
	switch t.Kind {
	case api.EInvoke:
		a.packets, a.err = s.user.Invoke(t.Op)
	case api.EDeliver:
		a.packets = s.user.Step(t.Data)
	case api.ETick:
		a.packets = s.user.Tick()
	case api.EStop:
		s.user.Stop()
	}
	a.lines, s.lines = s.lines, nil
	return a
}

// way is what is under way, as one machine.
type way struct{ net.Net }

func (w *way) do(t task) answer {
	var a answer
	switch t.Kind {
	case api.EDeliver:
		var p api.Packet
		if p, a.err = w.Deliver(t.Addr, t.N); a.err == api.OK {
			a.packets = []api.Packet{p}
		}
	case api.ELose:
		a.err = w.Lose(t.Addr, t.N)
	case api.EDouble:
		a.err = w.Double(t.Addr, t.N)
	}
	for _, p := range t.send {
		w.Send(p)
	}
	return a
}
