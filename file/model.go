package file

import (
	"bytes"

	"cairn/api"
	"cairn/bucket"
	"cairn/client"
	"cairn/ring"
)

// Model is the sequential store.
type Model struct {
	ring    *ring.Ring
	config  api.Config
	buckets map[int]api.Bucket
	blocks  map[place][]byte // those that are not all zeros
}

// place is where a block is.
type place struct {
	file  api.File
	index int
}

// NewModel is an empty store. Do is one operation, whole, by a client, of that number.
func NewModel(c api.Config) (*Model, api.Errno) {
	r, err := ring.New(c)
	if err != api.OK {
		return nil, err
	}
	return &Model{ring: r, config: r.Config(), buckets: map[int]api.Bucket{}, blocks: map[place][]byte{}}, api.OK
}

func (m *Model) Do(client, number int, o api.Op) api.Result {
	if err := m.refusal(client, number, o); err != api.OK {
		return api.Result{Err: err}
	}
	now := first(o, m.config.Block, api.MaxNum-number)
	for ; now.rest != nil; number++ {
		now = now.rest(m.part(client, number, now.part))
	}
	return now.result
}

// refusal tells why an operation is refused at once: what an idle client says.
func (m *Model) refusal(client, number int, o api.Op) api.Errno {
	switch {
	case client < 1 || client > api.MaxId || number < 1:
		return api.ErrArg
	case number > api.MaxNum:
		return api.ErrWorn
	}
	_, err := New(m.idle(), nil).Invoke(o)
	return err
}

// idle is a client that has asked nothing. What it refuses does not hang on the servers: it has but one, so that it is soon made.
func (m *Model) idle() *client.Client {
	c := m.config
	c.Servers, c.F, c.Points = []int{1}, 0, 1
	idle, _ := client.New(c, 1)
	return idle
}

// part does an atomic operation.
func (m *Model) part(client, number int, o api.Op) api.Result {
	at := place{o.File, o.N}
	switch o.Kind {
	case api.ORead:
		return api.Result{Data: m.read(at)}
	case api.OWrite:
		m.write(at, o.Data)
		return api.Result{}
	}
	c := api.Command{Kind: commandOf(o.Kind), Client: client, Op: number, Name: o.Name, File: o.File, New: o.New, Size: o.N}
	if o.Kind == api.OList { // its N says where
		c.Size = 0
		return m.ask(o.N, c)
	}
	return m.ask(m.ring.Bucket(o.Name), c)
}

func commandOf(kind int) int {
	return [...]int{
		api.OCreate: api.CCreate, api.ORemove: api.CRemove, api.OLookup: api.CLookup, api.OList: api.CList,
		api.OSetSize: api.CSetSize, api.OGrow: api.CGrow, api.OReplace: api.CReplace,
	}[kind]
}

// ask brings a command to a bucket.
func (m *Model) ask(number int, c api.Command) api.Result {
	next, answer, err := bucket.Apply(m.buckets[number], c, m.config.Room)
	if err != api.OK { // it has taken as many commands as there are instances
		return api.Result{Err: err}
	}
	m.buckets[number] = next
	return api.Result{Err: answer.Err, Entry: answer.Entry, List: answer.List}
}

func (m *Model) read(at place) []byte {
	data := make([]byte, m.config.Block)
	copy(data, m.blocks[at])
	return data
}

func (m *Model) write(at place, data []byte) {
	if len(bytes.Trim(data, "\x00")) == 0 { // as if nobody had written it
		delete(m.blocks, at)
		return
	}
	m.blocks[at] = bytes.Clone(data)
}
