package register

import (
	"bytes"

	"cairn/api"
)

// aim is what a machine's first phase is for: to write or to read.
type aim interface {
	// keep is what of an MValue is needed later on.
	keep(a api.Msg) api.Block
	// settle makes of the greatest block, and of whether all have its stamp: the block to lay down, and what is told at the end; true: the end is now, and nothing is laid down.
	settle(g api.Block, alike bool) (put api.Block, result api.Result, atEnd bool)
}

type writing struct {
	client int
	data   []byte
}

func (w writing) keep(a api.Msg) api.Block { return api.Block{Stamp: a.Stamp} }

func (w writing) settle(g api.Block, _ bool) (api.Block, api.Result, bool) {
	if g.Stamp.N >= api.MaxNum {
		return api.Block{}, api.Result{Err: api.ErrWorn}, true
	}
	tag := api.Stamp{N: g.Stamp.N + 1, Client: w.client}
	return api.Block{Stamp: tag, Data: w.data}, api.Result{Stamp: tag}, false
}

type reading struct {
	size int // bytes of a block that nobody wrote
}

func (r reading) keep(a api.Msg) api.Block {
	// Nobody wrote under this stamp, so that whatever bytes come with it are no block.
	if a.Stamp == (api.Stamp{}) {
		return api.Block{Data: make([]byte, r.size)}
	}
	return api.Block{Stamp: a.Stamp, Data: bytes.Clone(a.Block)}
}

func (r reading) settle(g api.Block, alike bool) (api.Block, api.Result, bool) {
	return g, api.Result{Stamp: g.Stamp, Data: g.Data}, alike
}
