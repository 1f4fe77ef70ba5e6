package audit_test

import (
	"math/rand"
	"slices"

	"cairn/api"
)

// hand draws what lies on disks: of rows of commands that were decided, of buckets that they make, of blocks that were written; with more or less that is wrong.
type hand struct {
	*rand.Rand
	c     api.Config
	wrong int    // one in so many is; 0: none
	tidy  bool   // records are such as may be, wherever they lie
	lines []line // by the bucket
}

// line is what is true of a bucket.
type line struct {
	start    api.Bucket // what is ahead of the first command is not known
	commands []api.Command
}

func newHand(c api.Config, seed int64) *hand {
	h := &hand{Rand: rand.New(rand.NewSource(seed)), c: c}
	h.wrong, h.tidy = oneOf(h.Rand, 0, 20, 6, 3), true
	if h.Intn(3) == 0 {
		h.wrong, h.tidy = oneOf(h.Rand, 40, 12, 5), false
	}
	for range min(2, c.Buckets) {
		h.lines = append(h.lines, h.line())
	}
	return h
}

func oneOf[T any](r *rand.Rand, all ...T) T { return all[r.Intn(len(all))] }

// errs tells whether the next thing is wrong; isNone whether it is so by itself.
func (h *hand) errs() bool   { return h.wrong > 0 && h.Intn(h.wrong) == 0 }
func (h *hand) isNone() bool { return !h.tidy && h.errs() }

func (h *hand) line() line {
	var l line
	if h.Intn(6) == 0 {
		l.start = made(h.c, create(9, 1, "c"), create(9, 2, "d"))
		l.start.Upto = oneOf(h.Rand, 3, 700, api.MaxInstance-4, api.MaxInstance-2)
	}
	for op := range h.Intn(5) {
		if l.start.Upto+op < api.MaxInstance {
			l.commands = append(l.commands, h.command(op+1))
		}
	}
	return l
}

func (h *hand) command(op int) api.Command {
	w := api.Command{Kind: 1 + h.Intn(api.CReplace), Client: 1 + h.Intn(3), Op: op}
	if h.Intn(3) == 0 {
		w.Kind = api.CCreate
	}
	if w.Kind != api.CList {
		w.Name = oneOf(h.Rand, "a", "b", "c")
	}
	if w.Kind >= api.CSetSize {
		w.File, w.Size = api.File{Client: 1 + h.Intn(3), Op: 1 + h.Intn(2)}, h.Intn(3)
	}
	if w.Kind == api.CReplace {
		w.New = api.File{Client: w.Client, Op: op}
	}
	return w
}

// odd is another command, unlike in one thing mostly.
func (h *hand) odd(w api.Command) api.Command {
	was := w
	for w == was {
		switch n := h.Intn(8); {
		case n == 0:
			w.Client++
		case n == 1:
			w.Op++
		case n == 2 && w.Name != "":
			w.Name += "s"
		case n == 3 && w.Kind <= api.CLookup:
			w.Kind = 1 + w.Kind%api.CLookup
		case n == 3 && (w.Kind == api.CSetSize || w.Kind == api.CGrow):
			w.Kind = api.CSetSize + api.CGrow - w.Kind
		case n == 4 && w.Kind >= api.CSetSize:
			w.File.Op++
		case n == 5 && w.Kind >= api.CSetSize:
			w.Size++
		case n == 6 && w.Kind == api.CReplace:
			w.New.Client++
		case n == 7:
			w = h.command(1 + h.Intn(3))
		}
	}
	return w
}

// trays are the disks of some servers, in some order.
func (h *hand) trays() []tray {
	var l []tray
	ids := slices.Clone(h.c.Servers)
	h.Shuffle(len(ids), func(i, j int) { ids[i], ids[j] = ids[j], ids[i] })
	if h.Intn(3) == 0 {
		ids = ids[:h.Intn(len(ids)+1)]
	}
	for _, id := range ids {
		l = append(l, tray{id, records{}})
	}
	h.layBlocks(l)
	for number, line := range h.lines {
		h.layBucket(l, number, line)
	}
	if h.isNone() && len(l) > 0 {
		number := h.c.Buckets + h.Intn(2)
		k := oneOf(h.Rand, dir(number), at(number, 1))
		oneOf(h.Rand, l...).records[k] = fine(h.c, k)
	}
	return l
}

// keeps tells whether a server keeps a key; where something is wrong it is some other server, too.
func (h *hand) keeps(k api.Key, id int) bool {
	return slices.Contains(groupOf(h.c, k), id) || h.isNone()
}

func (h *hand) layBlocks(l []tray) {
	for index := range 2 {
		k := blockAt(index)
		for _, s := range l {
			if h.keeps(k, s.server) && h.Intn(5) > 0 {
				s.records[k] = h.block(index)
			}
		}
	}
}

func (h *hand) block(index int) any {
	if h.isNone() {
		return h.junk(api.KBlock)
	}
	if h.Intn(4) == 0 {
		return zeros(h.c)
	}
	s := oneOf(h.Rand, stamp(1, 1), stamp(1, 2), stamp(2, 1), stamp(2, 2))
	b := written(s.N, s.Client, bytesOf(h.c, byte(s.N+s.Client*8+index*64))...)
	if h.errs() {
		b.Data[h.Intn(h.c.Block)]++
	}
	return b
}

// junk is a record that is none.
func (h *hand) junk(kind int) []byte { return oneOf(h.Rand, wrongRecords(h.c, kind)...) }

func (h *hand) layBucket(l []tray, number int, x line) {
	for _, s := range l {
		if !h.keeps(dir(number), s.server) {
			continue
		}
		if b := h.bucket(x); b != nil {
			s.records[dir(number)] = b
		}
	}
	for i := range len(x.commands) + 1 {
		n := x.start.Upto + 1 + i
		if n > api.MaxInstance {
			break
		}
		w := h.command(9) // nothing is decided there; who has accepted something, has this
		if i < len(x.commands) {
			w = x.commands[i]
		}
		h.layInstance(l, at(number, n), w, i == len(x.commands))
	}
}

func (h *hand) bucket(x line) any {
	switch {
	case h.isNone():
		return h.junk(api.KBucket)
	case h.Intn(2) == 0:
		return nil
	case h.Intn(8) == 0 && x.start.Upto == 0:
		return api.Bucket{}
	}
	b := madeFrom(h.c, x.start, x.commands[:h.Intn(len(x.commands)+1)]...)
	if b.Upto > 0 && h.errs() {
		return oneOf(h.Rand, append(spoilt(h.c, b), api.Bucket{Upto: b.Upto})...)
	}
	return b
}

// layInstance: what disks have accepted at one ballot is mostly one command, and at a later one the same.
func (h *hand) layInstance(l []tray, k api.Key, w api.Command, open bool) {
	other := h.odd(w)
	most := oneOf(h.Rand, 4, 6, 9)
	ballots := []api.Stamp{stamp(2, 2), stamp(2, 2), stamp(2, 2), stamp(2, 3), stamp(3, 1), stamp(1, 9)}[h.Intn(3):]
	for _, s := range l {
		if !h.keeps(k, s.server) || h.Intn(6) == 0 {
			continue
		}
		mine := w
		if h.errs() {
			mine = oneOf(h.Rand, other, other, h.odd(w))
		}
		ballot := oneOf(h.Rand, ballots...)
		i := accepted(ballot.N, ballot.Client, mine)
		switch n := h.Intn(12); {
		case h.isNone():
			s.records[k] = h.junk(api.KInstance)
			continue
		case n == 0:
			i = api.Instance{}
		case n == 1:
			i = promised(ballot.N, ballot.Client)
		case n < 4:
			i = outbid(ballot.N, ballot.Client, mine)
		case n < most && !open:
			i = decided(mine)
		}
		s.records[k] = i
	}
}
