package msg

import (
	"cairn/api"
	"cairn/wire"
)

// reader takes the parts of one body, whatever they say; whether they may be is judged behind it.
type reader struct {
	*wire.Reader
	odd bool // a flag was neither 0 nor 1
}

func readMsg(r *reader) api.Msg {
	m := api.Msg{
		Kind: r.Num(), From: r.addr(), To: r.addr(), Op: r.Num(), Round: r.Num(),
		Key: api.Key{Kind: r.Num(), A: r.Num(), B: r.Num(), C: r.Num()},
	}
	read := fieldReaders(r, &m)
	for _, f := range fieldsOf(m.Kind) {
		read[f]()
	}
	return m
}

// fieldReaders are over one reader: each takes what comes next, so the order of the calls is that of the bytes.
func fieldReaders(r *reader, m *api.Msg) [fieldCount]func() {
	return [fieldCount]func(){
		stampField:    func() { m.Stamp = r.stamp() },
		heldField:     func() { m.Held = r.stamp() },
		blockField:    func() { m.Block = r.Bytes() },
		commandField:  func() { m.Command = r.command() },
		bucketField:   func() { m.Bucket = readBucket(r) },
		commandsField: func() { m.Commands = list(r, api.MaxHeld, r.command) },
		moreField:     func() { m.More = r.flag() },
	}
}

func readBlock(r *reader) api.Block {
	return api.Block{Stamp: r.stamp(), Data: r.Bytes()}
}

func readInstance(r *reader) api.Instance {
	return api.Instance{Promised: r.stamp(), Accepted: r.stamp(), Command: r.command(), Decided: r.flag()}
}

func readBucket(r *reader) api.Bucket {
	entry := func() api.Entry {
		return api.Entry{Name: r.Text(), File: r.file(), Size: r.Num()}
	}
	last := func() api.Last {
		return api.Last{Client: r.Num(), Op: r.Num(), Instance: r.Num(), Err: api.Errno(r.Num()), File: r.file(), Size: r.Num()}
	}
	return api.Bucket{Upto: r.Num(), Entries: list(r, api.MaxRoom, entry), Lasts: list(r, api.MaxId, last)}
}

// list reads how many there are, and these; but of more than may be one too many, so that no number in the bytes takes more room than that: such a list is refused all the same.
func list[T any](r *reader, most int, next func() T) []T {
	all := make([]T, min(r.Num(), most+1))
	for i := range all {
		all[i] = next()
	}
	return all
}

func (r *reader) command() api.Command {
	kind := r.Num()
	if kind == 0 { // the zero Command has nothing else
		return api.Command{}
	}
	return api.Command{Kind: kind, Client: r.Num(), Op: r.Num(), Name: r.Text(), File: r.file(), New: r.file(), Size: r.Num()}
}

func (r *reader) addr() api.Addr {
	return api.Addr{Client: r.flag(), Id: r.Num()}
}

func (r *reader) stamp() api.Stamp {
	return api.Stamp{N: r.Num(), Client: r.Num()}
}

func (r *reader) file() api.File {
	return api.File{Client: r.Num(), Op: r.Num()}
}

func (r *reader) flag() bool {
	n := r.Num()
	r.odd = r.odd || n > 1
	return n == 1
}

// whole tells whether the body was read up to its end, without a fault.
func (r *reader) whole() bool {
	r.End()
	_, fault := r.Err()
	return fault == api.OK && !r.odd
}
