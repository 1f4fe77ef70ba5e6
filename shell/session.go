package shell

import (
	"cairn/api"
	"cairn/audit"
	"cairn/history"
	"cairn/ring"
	"cairn/world"
)

const (
	mostAtOnce = 4096 // exchanges of a fair, packets of an all
	workers    = 2    // of an audit
)

// session is how far a script has come.
type session struct {
	commands []command
	world    *world.World // nil: there is none
	config   api.Config   // the world's
}

// line does what one line says, and tells the words of its answer.
func (s *session) line(line string) []string {
	words, err := Words(line)
	if err != api.OK {
		return errorWord(err)
	}
	if len(words) == 0 {
		return nil
	}
	for _, c := range s.commands {
		if l, ok := c.read(words); ok {
			return s.do(c, l)
		}
	}
	return errorWord(api.ErrWord)
}

func (s *session) do(c command, l []given) []string {
	if s.world == nil && !c.bare {
		return []string{nothing}
	}
	return c.does(s, l)
}

// found makes a new world.
func (s *session) found(l []given) []string {
	c := api.Config{F: l[0].n, Points: l[1].n, Buckets: l[2].n, Block: l[3].n, Room: l[4].n}
	for _, g := range l[6:] {
		c.Servers = append(c.Servers, g.n)
	}
	w, err := world.New(c, []int{1, 2, 3, 4, 5, 6, 7, 8}, l[5].n)
	if err == api.OK {
		s.world, s.config = w, c
	}
	return errorWord(err)
}

func (s *session) event(e api.Event) []string { return errorWord(s.world.Do(e)) }

func (s *session) invoke(client int, o api.Op) []string {
	if o.Kind == api.OWrite {
		o.Data = filled(o.Data, s.config.Block)
	}
	return s.event(api.Event{Kind: api.EInvoke, Client: client, Op: o})
}

// filled has zeros behind bytes that are fewer than a block.
func filled(data []byte, block int) []byte {
	return append(data, make([]byte, max(block-len(data), 0))...)
}

func (s *session) fair(l []given) []string {
	client, exchanges := l[0].n, l[1].n
	if exchanges < 0 || exchanges > mostAtOnce {
		return errorWord(api.ErrArg)
	}
	return okNumbers(s.world.Fair(client, exchanges))
}

// all looks at what is under way only when all that it saw there is delivered: what comes stands behind it, so each is the first one when it is its turn.
func (s *session) all([]given) []string {
	delivered := 0
	for under := s.world.Under(); len(under) > 0 && delivered < mostAtOnce; under = s.world.Under() {
		for _, p := range under[:min(len(under), mostAtOnce-delivered)] {
			s.world.Do(api.Event{Kind: api.EDeliver, Addr: p.From, N: p.Count})
			delivered++
		}
	}
	return okNumbers(delivered)
}

func (s *session) under([]given) []string {
	var words []string
	for _, p := range s.world.Under() {
		words = append(words, packetWord(p))
	}
	return okWords(words...)
}

func (s *session) result(l []given) []string {
	if s.world.Pending(l[0].n) {
		return []string{isPending}
	}
	r, there := lastResult(s.world.History(), l[0].n)
	if !there {
		return []string{nothing}
	}
	return okWords(resultWords(r)...)
}

// lastResult is that of the last operation of a client that has returned, the parts of others aside.
func lastResult(lines []api.Line, client int) (r api.Result, there bool) {
	within := false
	for _, l := range lines {
		if l.Client != client {
			continue
		}
		switch {
		case l.Kind == api.HBegin:
			within = true
		case l.Kind == api.HEnd, l.Kind == api.HReturn && !within:
			within, r, there = false, l.Result, true
		}
	}
	return r, there
}

func (s *session) history([]given) []string { return okNumbers(len(s.world.History())) }

func (s *session) witness([]given) []string {
	order, there := history.Witness(s.config, s.world.History())
	if !there {
		return []string{noWitness}
	}
	return okNumbers(order...)
}

func (s *session) legal([]given) []string {
	lines := s.world.History()
	order, there := history.Witness(s.config, lines)
	if !there {
		return []string{noWitness}
	}
	return okNumbers(history.Legal(s.config, lines, order))
}

func (s *session) audit([]given) []string {
	faults, err := audit.Run(s.config, s.images(), workers)
	if err != api.OK {
		return errorWord(err)
	}
	return faultWords(faults)
}

// images are all servers' disks.
func (s *session) images() []api.Image {
	var all []api.Image
	for _, id := range s.config.Servers {
		data, _ := s.world.Image(id) // it is one of the world's
		all = append(all, api.Image{Server: id, Data: data})
	}
	return all
}

// ring is that of the world, whose configuration is right.
func (s *session) ring() *ring.Ring {
	r, _ := ring.New(s.config)
	return r
}

func blockKey(f api.File, index int) api.Key {
	return api.Key{Kind: api.KBlock, A: f.Client, B: f.Op, C: index}
}

func (s *session) group(l []given) []string {
	servers, err := s.ring().Group(blockKey(l[0].file, l[1].n))
	if err != api.OK {
		return errorWord(err)
	}
	return okNumbers(servers...)
}

func (s *session) bucket(l []given) []string { return okNumbers(s.ring().Bucket(l[0].text)) }

func (s *session) held(l []given) []string {
	b := s.world.Block(l[0].n, blockKey(l[1].file, l[2].n))
	return okWords(stampWord(b.Stamp), Quote(b.Data))
}

func (s *session) trimmed(l []given) []string {
	return okNumbers(s.world.Bucket(l[0].n, l[1].n).Upto)
}
