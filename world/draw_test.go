package world_test

import (
	"fmt"
	"math"
	"math/rand"
	"testing"

	"cairn/api"
)

// lot draws what happens in a world.
type lot struct {
	*rand.Rand
	hall
	messages [][]byte // bytes that are messages, for EJunk
}

func (h hall) lot(t testing.TB, seed int64) lot {
	t.Helper()
	l := lot{Rand: rand.New(rand.NewSource(seed)), hall: h}
	for _, id := range h.c.Servers {
		l.messages = append(l.messages, query(t, h.c, id))
	}
	return l
}

func oneOf[T any](r lot, all ...T) T { return all[r.Intn(len(all))] }

func (r lot) name() string { return oneOf(r, "plum", "a", "oar", "peg") }

func (r lot) server() int { return oneOf(r, r.c.Servers...) }

func (r lot) client() int { return oneOf(r, r.clients...) }

// file is one that an OCreate of the lines has made, mostly.
func (r lot) file(lines []api.Line) api.File {
	var all []api.File
	for _, l := range lines {
		if l.Kind == api.HReturn && l.Result.Entry.File.Op > 0 {
			all = append(all, l.Result.Entry.File)
		}
	}
	if len(all) == 0 || r.Intn(8) == 0 {
		return fileOf(1+r.Intn(9), 1+r.Intn(3))
	}
	return oneOf(r, all...)
}

func (r lot) bytes(n int) []byte {
	data := make([]byte, n)
	r.Read(data)
	return data
}

// op draws an operation, most of which may be.
func (r lot) op(w scene) api.Op {
	lines := w.History()
	f := func() api.File { return r.file(lines) }
	size := func() int { return r.Intn(3 * r.c.Block) }
	switch r.Intn(18) {
	case 0, 1, 2, 3:
		return create(r.name())
	case 4:
		return remove(r.name())
	case 5:
		return lookup(r.name())
	case 6:
		return list(r.Intn(r.c.Buckets))
	case 7:
		return api.Op{Kind: api.OSetSize, Name: r.name(), File: f(), N: size()}
	case 8:
		return api.Op{Kind: api.OGrow, Name: r.name(), File: f(), N: size()}
	case 9:
		return api.Op{Kind: api.OReplace, Name: r.name(), File: f(), New: f(), N: size()}
	case 10, 11:
		return read(f(), r.Intn(2))
	case 12, 13:
		return write(f(), r.Intn(2), r.bytes(r.c.Block)...)
	case 14:
		return readAt(r.name(), r.Intn(5), size())
	case 15:
		return writeAt(r.name(), r.Intn(5), r.bytes(1+size())...)
	case 16:
		return oneOf(r, api.Op{Kind: api.OTruncate, Name: r.name(), N: size()}, api.Op{Kind: api.OCopy, Name: r.name(), Other: r.name()})
	}
	return oneOf(r, api.Op{}, list(r.c.Buckets), create(""), api.Op{Kind: api.OCopy}, api.Op{Kind: 14}, write(fileOf(1, 1), 0), api.Op{Kind: api.OList, At: 1})
}

// packet draws the name of one that is under way, mostly of those that have been for longest.
func (r lot) packet(w scene) (api.Addr, int) {
	all := w.Under()
	if len(all) == 0 || r.Intn(25) == 0 {
		return oneOf(r, user(r.client()), node(r.server()), node(0), user(77)), r.Intn(5)
	}
	p := all[r.Intn(min(len(all), 6))]
	if r.Intn(3) == 0 {
		p = oneOf(r, all...)
	}
	return p.From, p.Count
}

func (r lot) key(w scene) api.Key {
	switch r.Intn(5) {
	case 0, 1:
		return block(r.file(w.History()), r.Intn(2))
	case 2, 3:
		return bucketKey(r.Intn(r.c.Buckets))
	}
	return oneOf(r, api.Key{}, at(0, 1), bucketKey(r.c.Buckets), bucketKey(-1))
}

// event draws one of any kind, most of which may be.
func (r lot) event(w scene) api.Event {
	switch n := r.Intn(100); {
	case n < 44:
		return deliver(r.packet(w))
	case n < 47:
		return lose(r.packet(w))
	case n < 50:
		return double(r.packet(w))
	case n < 65:
		return invoke(r.client(), r.op(w))
	case n < 71:
		return tick(r.client())
	case n < 74:
		return fall(r.server(), r.Intn(4))
	case n < 77:
		return tear(r.server(), r.Intn(5), r.Intn(520))
	case n < 85:
		return start(r.server())
	case n < 86 && r.Intn(6) == 0:
		return stop(r.client())
	case n < 90:
		return trim(r.server(), r.Intn(r.c.Buckets+1), r.Intn(12)-1)
	case n < 94:
		return mend(r.server(), oneOf(r, r.server(), r.server(), r.server(), 77), r.key(w))
	case n < 95:
		return quota(r.server(), oneOf(r, 0, 4, 40, 70, 1000))
	case n < 97:
		return junk(r.server(), oneOf(r, nil, []byte{1, 2, 3}, r.bytes(30), oneOf(r, r.messages...))...)
	case n < 98:
		return junk(oneOf(r, 0, 77, r.server()), oneOf(r, r.messages...)...)
	}
	return r.wrong(w)
}

// wrong draws an event, and sets up to two fields of it to whatever.
func (r lot) wrong(w scene) api.Event {
	e := api.Event{Kind: oneOf(r, 0, -1, 14, math.MaxInt)}
	if r.Intn(9) > 0 {
		e = r.right(w)
	}
	for range r.Intn(3) {
		number := oneOf(r, -1, 0, 1, 77, r.server(), r.client(), math.MinInt)
		switch r.Intn(10) {
		case 0:
			e.Server = number
		case 1:
			e.Other = number
		case 2:
			e.Client = number
		case 3:
			e.Addr = oneOf(r, node(number), user(number))
		case 4:
			e.N = number
		case 5:
			e.Torn = number
		case 6:
			e.Upto = number
		case 7:
			e.Key = r.key(w)
		case 8:
			e.Op = r.op(w)
		case 9:
			e.Data = oneOf(r, nil, []byte{}, []byte{7}, oneOf(r, r.messages...))
		}
	}
	return e
}

// right draws an event of each kind as often as of each other.
func (r lot) right(w scene) api.Event {
	from, n := r.packet(w)
	return oneOf(r,
		invoke(r.client(), r.op(w)), deliver(from, n), lose(from, n), double(from, n), tick(r.client()), fall(r.server(), r.Intn(3)),
		tear(r.server(), r.Intn(5), r.Intn(513)), start(r.server()), stop(r.client()), trim(r.server(), r.Intn(r.c.Buckets), r.Intn(9)),
		mend(r.server(), r.server(), r.key(w)), quota(r.server(), r.Intn(100)), junk(r.server(), 1),
	)
}

// call is an event, or a Fair.
type call struct {
	event             api.Event
	fair              bool
	client, exchanges int
}

func (r lot) call(w scene) call {
	if r.Intn(14) == 0 {
		return call{fair: true, client: oneOf(r, r.client(), r.client(), r.client(), 77), exchanges: oneOf(r, -1, 0, 1, 2, 3, 12, 12)}
	}
	return call{event: r.event(w)}
}

// on makes the call, and tells what it answers.
func (c call) on(w scene) int {
	if c.fair {
		return w.Fair(c.client, c.exchanges)
	}
	return int(w.Do(c.event))
}

func (c call) String() string {
	if c.fair {
		return fmt.Sprintf("Fair(%d, %d)", c.client, c.exchanges)
	}
	return fmt.Sprintf("%+v", c.event)
}
