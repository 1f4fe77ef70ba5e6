package file

import "cairn/api"

// step is what comes next of an operation: a part, and what is left behind it; or, where nothing is, its result.
type step struct {
	part   api.Op
	rest   rest
	result api.Result
}

// rest stands for all of an operation that comes behind a part: it is handed what that part returned.
type rest func(r api.Result) step

// first is how an operation begins; left: how many numbers there are behind its first part's. An atomic one is its own and only part.
func first(o api.Op, block, left int) step {
	if !isComposite(o.Kind) {
		return step{part: o, rest: ends}
	}
	return then(api.Op{Kind: api.OLookup, Name: o.Name}, func(r api.Result) step {
		if Parts(o, r.Entry, block) > left {
			return ends(api.Result{Err: api.ErrWorn})
		}
		return job{o, r.Entry, block}.begin()
	})
}

// then is a part of a composite operation, behind which more comes only if it is not refused.
func then(part api.Op, more rest) step {
	return step{part: part, rest: func(r api.Result) step {
		if r.Err != api.OK {
			return ends(api.Result{Err: r.Err})
		}
		return more(r)
	}}
}

func ends(r api.Result) step { return step{result: r} }

// job is a composite operation whose Lookup has answered an entry.
type job struct {
	api.Op
	entry api.Entry
	block int
}

func (j job) begin() step {
	switch j.Kind {
	case api.OReadAt:
		return j.readFrom(j.At, nil)
	case api.OWriteAt:
		return j.writeFrom(j.At)
	case api.OTruncate:
		return j.clearTo(j.entry.Size)
	}
	return then(api.Op{Kind: api.OCreate, Name: j.Other}, func(r api.Result) step { return j.copyFrom(0, r.Entry) })
}

// readFrom reads what is left from a byte on; got is what was read ahead of it.
func (j job) readFrom(at int, got []byte) step {
	end := j.readEnd()
	if at >= end {
		return ends(api.Result{Data: got, Entry: j.entry})
	}
	index, from, to := j.within(at, end)
	return then(readOf(j.entry.File, index), func(r api.Result) step {
		return j.readFrom(at+to-from, append(got, r.Data[from:to]...))
	})
}

// writeFrom writes what is left from a byte on.
func (j job) writeFrom(at int) step {
	end := j.writeEnd()
	if at >= end {
		return j.grown()
	}
	index, from, to := j.within(at, end)
	write := func(r api.Result) step { // what a part has answered is nobody else's
		copy(r.Data[from:to], j.Data[at-j.At:])
		return then(writeOf(j.entry.File, index, r.Data), func(api.Result) step { return j.writeFrom(at + to - from) })
	}
	if to-from == j.block {
		return write(api.Result{Data: make([]byte, j.block)})
	}
	return then(readOf(j.entry.File, index), write)
}

// grown is the end of a write.
func (j job) grown() step {
	result := api.Result{N: len(j.Data), Entry: j.entry}
	if len(j.Data) == 0 || j.writeEnd() <= j.entry.Size {
		return ends(result)
	}
	return then(growOf(j.Name, j.entry.File, j.writeEnd()), func(r api.Result) step {
		result.Entry = r.Entry
		return ends(result)
	})
}

// clearTo makes zeros of what is left ahead of a byte, down to the new size: block by block from the last one, the size itself behind all.
func (j job) clearTo(end int) step {
	if end <= j.N {
		return j.resized()
	}
	index := (end - 1) / j.block
	keep := max(j.N-index*j.block, 0)
	write := func(r api.Result) step {
		clear(r.Data[keep:])
		return then(writeOf(j.entry.File, index, r.Data), func(api.Result) step { return j.clearTo(index * j.block) })
	}
	if keep == 0 {
		return write(api.Result{Data: make([]byte, j.block)})
	}
	return then(readOf(j.entry.File, index), write)
}

func (j job) resized() step {
	if j.N == j.entry.Size {
		return ends(api.Result{Entry: j.entry})
	}
	return then(api.Op{Kind: api.OSetSize, Name: j.Name, File: j.entry.File, N: j.N}, endsWithEntry)
}

// copyFrom copies the blocks from an index on to the new file.
func (j job) copyFrom(index int, to api.Entry) step {
	if index*j.block < j.entry.Size {
		return then(readOf(j.entry.File, index), func(r api.Result) step {
			return then(writeOf(to.File, index, r.Data), func(api.Result) step { return j.copyFrom(index+1, to) })
		})
	}
	if j.entry.Size == 0 {
		return ends(api.Result{Entry: to})
	}
	return then(growOf(j.Other, to.File, j.entry.Size), endsWithEntry)
}

func endsWithEntry(r api.Result) step { return ends(api.Result{Entry: r.Entry}) }

// readEnd and writeEnd are the places behind the last byte that is asked for.
func (j job) readEnd() int  { return min(j.At+j.N, j.entry.Size) }
func (j job) writeEnd() int { return j.At + len(j.Data) }

// within tells the block of a byte, and which of its bytes are asked for: from that one on, ahead of end.
func (j job) within(at, end int) (index, from, to int) {
	index = at / j.block
	return index, at % j.block, min(end-index*j.block, j.block)
}

func readOf(f api.File, index int) api.Op {
	return api.Op{Kind: api.ORead, File: f, N: index}
}

func writeOf(f api.File, index int, data []byte) api.Op {
	return api.Op{Kind: api.OWrite, File: f, N: index, Data: data}
}

func growOf(name string, f api.File, size int) api.Op {
	return api.Op{Kind: api.OGrow, Name: name, File: f, N: size}
}

// Parts tells how many numbers a composite operation takes beside its Lookup, if the entry is that one.
func Parts(o api.Op, e api.Entry, block int) int {
	if block < 1 {
		return 0
	}
	j := job{o, e, block}
	switch o.Kind {
	case api.OReadAt:
		return j.touched(o.At, j.readEnd())
	case api.OWriteAt:
		return j.writeParts()
	case api.OTruncate:
		return j.truncateParts()
	case api.OCopy:
		return j.copyParts()
	}
	return 0
}

func (j job) writeParts() int {
	if len(j.Data) == 0 {
		return 0
	}
	end := j.writeEnd()
	blocks := j.touched(j.At, end)
	whole := max(end/j.block-(j.At+j.block-1)/j.block, 0) // those are not read
	parts := blocks + blocks - whole
	if end > j.entry.Size {
		parts++
	}
	return parts
}

func (j job) truncateParts() int {
	parts := j.touched(j.N, j.entry.Size)
	if parts > 0 && j.N%j.block != 0 { // the first one is read
		parts++
	}
	if j.N != j.entry.Size {
		parts++
	}
	return parts
}

func (j job) copyParts() int {
	if j.entry.Size == 0 {
		return 1
	}
	return 2*j.touched(0, j.entry.Size) + 2
}

// touched tells in how many blocks there are bytes from one on and ahead of another.
func (j job) touched(from, to int) int {
	if from >= to {
		return 0
	}
	return (to-1)/j.block - from/j.block + 1
}
