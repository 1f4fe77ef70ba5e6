package mend

import (
	"bytes"

	"cairn/api"
)

func tellBlock(have *api.Msg, held api.Block) {
	// What is held under this stamp is zeros, if anything: whoever asks has those without being told.
	if held.Stamp == (api.Stamp{}) {
		return
	}
	have.Stamp, have.Block = held.Stamp, bytes.Clone(held.Data)
}

func tellBucket(have *api.Msg, h Held) {
	have.Bucket, have.More = copied(h.Bucket), top(h) > h.Bucket.Upto
}

func tellCommands(have *api.Msg, n int, h Held) {
	last := top(h)
	m := min(last, n+api.MaxHeld-1)
	have.Stamp.N, have.More = n, last > m
	if m >= n {
		have.Commands = decisions(h.Row, n, m-n+1)
	}
}

// copied shares no list with what it is a copy of, not even an empty one.
func copied(b api.Bucket) api.Bucket {
	b.Entries = append([]api.Entry(nil), b.Entries...)
	b.Lasts = append([]api.Last(nil), b.Lasts...)
	return b
}
