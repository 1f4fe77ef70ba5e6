package audit

import (
	"bytes"
	"slices"

	"cairn/api"
	"cairn/tally"
)

// faults are those of all records that have that home, in no order. An FRecord is told of each disk on which it is.
func (d disks) faults(k api.Key) []api.Fault {
	h := d.held(k)
	var list []api.Fault
	for _, wrong := range h.wrong {
		list = append(list, api.Fault{Kind: api.FRecord, Key: wrong})
	}
	if anyTwo(h.blocks, areUnlikeBlocks) {
		list = append(list, api.Fault{Kind: api.FTag, Key: k})
	}
	if anyTwo(h.buckets, areUnlikeBuckets) || h.isUnmade() {
		list = append(list, api.Fault{Kind: api.FBucket, Key: k})
	}
	for n := range h.rows {
		instance := api.Key{Kind: api.KInstance, A: k.A, B: n}
		if len(h.decided(n)) > 1 {
			list = append(list, api.Fault{Kind: api.FSplit, Key: instance})
		}
		if h.isLater(n) {
			list = append(list, api.Fault{Kind: api.FLater, Key: instance})
		}
	}
	return list
}

// anyTwo tells whether two of a list are so.
func anyTwo[T any](list []T, are func(a, b T) bool) bool {
	for i, a := range list {
		if slices.ContainsFunc(list[i+1:], func(b T) bool { return are(a, b) }) {
			return true
		}
	}
	return false
}

func areUnlikeBlocks(a, b api.Block) bool {
	return a.Stamp == b.Stamp && !bytes.Equal(a.Data, b.Data)
}

func areUnlikeBuckets(a, b api.Bucket) bool {
	return a.Upto == b.Upto && !(slices.Equal(a.Entries, b.Entries) && slices.Equal(a.Lasts, b.Lasts))
}

// isLater tells whether a disk has accepted another command than the chosen one, at a greater ballot.
func (h holding) isLater(n int) bool {
	c, there := h.chosen(n)
	return there && slices.ContainsFunc(h.rows[n], func(i api.Instance) bool {
		return tally.Less(c.Accepted, i.Accepted) && i.Command != c.Command
	})
}

// isUnmade tells whether a trimmed bucket is not what its commands make. Each start is held against those next behind it alone: if it makes them, what lies beyond is made from them as well.
func (h holding) isUnmade() bool {
	for _, start := range append([]api.Bucket{{}}, h.buckets...) {
		made := h.behind(start, h.nextUpto(start.Upto))
		if made.Upto == start.Upto {
			continue
		}
		if slices.ContainsFunc(h.buckets, func(b api.Bucket) bool { return areUnlikeBuckets(made, b) }) {
			return true
		}
	}
	return false
}

// nextUpto is the least Upto of a trimmed bucket that is above another one, or that one, if there is none.
func (h holding) nextUpto(upto int) int {
	next := upto
	for _, b := range h.buckets {
		if b.Upto > upto && (next == upto || b.Upto < next) {
			next = b.Upto
		}
	}
	return next
}
