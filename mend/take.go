package mend

import (
	"bytes"

	"cairn/api"
	"cairn/tally"
)

func newerBlock(have api.Msg, held api.Block) []Change {
	if !tally.Less(held.Stamp, have.Stamp) {
		return nil
	}
	return []Change{{Key: have.Key, Block: api.Block{Stamp: have.Stamp, Data: bytes.Clone(have.Block)}}}
}

func newerBucket(have api.Msg, h Held) []Change {
	// A bucket up to the edge tells nothing that is lacking here, and trimming is not what a mend is for.
	if have.Bucket.Upto <= edge(h) {
		return nil
	}
	return []Change{{Key: have.Key, Bucket: copied(have.Bucket)}}
}

func newDecisions(have api.Msg, h Held) []Change {
	var changes []Change
	first := have.Stamp.N
	known := decisions(h.Row, first, len(have.Commands))
	for i, c := range have.Commands {
		n := first + i
		if c == (api.Command{}) || known[i] != (api.Command{}) || n <= h.Bucket.Upto || n > api.MaxInstance {
			continue
		}
		changes = append(changes, Change{
			Key:      api.Key{Kind: api.KInstance, A: have.Key.A, B: n},
			Instance: api.Instance{Command: c, Decided: true},
		})
	}
	return changes
}
