package msg

import (
	"cairn/api"
	"cairn/wire"
)

// writer puts the parts of bodies.
type writer struct {
	wire.Writer
}

func putMsg(w *writer, m api.Msg) {
	w.nums(m.Kind)
	w.addr(m.From)
	w.addr(m.To)
	w.nums(m.Op, m.Round, m.Key.Kind, m.Key.A, m.Key.B, m.Key.C)
	for _, f := range fieldsOf(m.Kind) {
		w.field(m, f)
	}
}

func (w *writer) field(m api.Msg, f field) {
	switch f {
	case stampField:
		w.stamp(m.Stamp)
	case heldField:
		w.stamp(m.Held)
	case blockField:
		w.Bytes(m.Block)
	case commandField:
		w.command(m.Command)
	case bucketField:
		putBucket(w, m.Bucket)
	case commandsField:
		w.Num(len(m.Commands))
		for _, x := range m.Commands {
			w.command(x)
		}
	case moreField:
		w.flag(m.More)
	}
}

func putBlock(w *writer, x api.Block) {
	w.stamp(x.Stamp)
	w.Bytes(x.Data)
}

func putInstance(w *writer, x api.Instance) {
	w.stamp(x.Promised)
	w.stamp(x.Accepted)
	w.command(x.Command)
	w.flag(x.Decided)
}

func putBucket(w *writer, x api.Bucket) {
	w.nums(x.Upto, len(x.Entries))
	for _, e := range x.Entries {
		w.Text(e.Name)
		w.file(e.File)
		w.Num(e.Size)
	}
	w.Num(len(x.Lasts))
	for _, l := range x.Lasts {
		w.nums(l.Client, l.Op, l.Instance, int(l.Err))
		w.file(l.File)
		w.Num(l.Size)
	}
}

func (w *writer) command(x api.Command) {
	w.Num(x.Kind)
	if x.Kind == 0 { // the zero Command: no other has this kind
		return
	}
	w.nums(x.Client, x.Op)
	w.Text(x.Name)
	w.file(x.File)
	w.file(x.New)
	w.Num(x.Size)
}

func (w *writer) addr(a api.Addr) {
	w.flag(a.Client)
	w.Num(a.Id)
}

func (w *writer) stamp(s api.Stamp) { w.nums(s.N, s.Client) }

func (w *writer) file(f api.File) { w.nums(f.Client, f.Op) }

func (w *writer) flag(is bool) {
	if is {
		w.Num(1)
	} else {
		w.Num(0)
	}
}

func (w *writer) nums(numbers ...int) {
	for _, n := range numbers {
		w.Num(n)
	}
}
