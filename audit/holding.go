package audit

import (
	"slices"

	"cairn/api"
	"cairn/bucket"
	"cairn/msg"
	"cairn/ring"
	"cairn/tally"
)

// holding is what disks hold of a block, or of a bucket and its instances. Its lists are in the images' order.
type holding struct {
	config  api.Config
	blocks  []api.Block
	buckets []api.Bucket
	uptos   map[int]int            // of the buckets, by the server
	rows    map[int][]api.Instance // by the instance: of the disks that have not forgotten it
	wrong   []api.Key              // of records that are none
}

// take reads a record. A disk's bucket comes ahead of its instances: that is the order of their keys.
func (h *holding) take(r record) api.Errno {
	var err api.Errno
	switch r.key.Kind {
	case api.KBlock:
		var b api.Block
		if b, err = msg.ReadBlock(r.data, h.config); err == api.OK {
			h.blocks = append(h.blocks, b)
		}
	case api.KBucket:
		var b api.Bucket
		if b, err = msg.ReadBucket(r.data, h.config); err == api.OK {
			h.buckets = append(h.buckets, b)
			h.uptos[r.server] = b.Upto
		}
	case api.KInstance:
		var i api.Instance
		if i, err = msg.ReadInstance(r.data, h.config); err == api.OK && r.key.B > h.uptos[r.server] {
			h.rows[r.key.B] = append(h.rows[r.key.B], i)
		}
	}
	return err
}

// chosen has the command, and the ballot at which a majority has accepted it. There is one such at most: two majorities would meet.
func (h holding) chosen(n int) (api.Instance, bool) {
	for _, i := range h.rows[n] {
		if i.Accepted == (api.Stamp{}) { // one that holds it as decided has no ballot any more
			continue
		}
		count := 0
		for _, j := range h.rows[n] {
			if j.Accepted == i.Accepted && j.Command == i.Command {
				count++
			}
		}
		if count >= ring.Majority(h.config) {
			return i, true
		}
	}
	return api.Instance{}, false
}

// decided are the commands that are decided in an instance, each once.
func (h holding) decided(n int) []api.Command {
	var list []api.Command
	for _, i := range h.rows[n] {
		if i.Decided && !slices.Contains(list, i.Command) {
			list = append(list, i.Command)
		}
	}
	if i, there := h.chosen(n); there && !slices.Contains(list, i.Command) {
		list = append(list, i.Command)
	}
	return list
}

// behind is a bucket behind the next instances, up to one at most, as long as just one command is decided in each.
func (h holding) behind(b api.Bucket, upto int) api.Bucket {
	for b.Upto < upto {
		commands := h.decided(b.Upto + 1)
		if len(commands) != 1 {
			break
		}
		// One by one: the answers of a long row, which nobody asks for, would be all lists of it at a time.
		next, _, err := bucket.Replay(b, h.config.Room, commands...)
		if err != api.OK {
			break
		}
		b = next
	}
	return b
}

// newestBlock: what is all zeros, and was never written, is none.
func (h holding) newestBlock() api.Block {
	b, _ := tally.Best(func(a, b api.Block) bool { return tally.Less(a.Stamp, b.Stamp) }, h.blocks...)
	if b.Stamp == (api.Stamp{}) {
		return api.Block{}
	}
	return b
}

func (h holding) newestBucket() api.Bucket {
	b, _ := tally.Best(func(a, b api.Bucket) bool { return a.Upto < b.Upto }, h.buckets...)
	return h.behind(b, api.MaxInstance)
}
