package audit

import (
	"slices"

	"cairn/api"
	"cairn/disk"
	"cairn/ring"
	"cairn/server"
	"cairn/stable"
)

// disks is what lies on them.
type disks struct {
	ring    *ring.Ring
	config  api.Config
	records map[api.Key][]record // by their homes; of one disk after the other, by key
}

// record is what lies on a server's disk under a key.
type record struct {
	server int
	key    api.Key
	data   []byte
}

// home is the key with which another one is looked at: an instance's is its bucket, that may have forgotten it, and that is made of what was decided there.
func home(k api.Key) api.Key {
	if k.Kind == api.KInstance {
		return api.Key{Kind: api.KBucket, A: k.A}
	}
	return k
}

func open(r *ring.Ring, images []api.Image) (disks, api.Errno) {
	d := disks{ring: r, config: r.Config(), records: map[api.Key][]record{}}
	most := server.Most(d.config)
	for i, x := range images {
		if !slices.Contains(d.config.Servers, x.Server) || isAmong(images[:i], x.Server) {
			return disks{}, api.ErrAddr
		}
		if err := d.add(x, most); err != api.OK {
			return disks{}, err
		}
	}
	return d, api.OK
}

func isAmong(images []api.Image, server int) bool {
	return slices.ContainsFunc(images, func(x api.Image) bool { return x.Server == server })
}

func (d disks) add(x api.Image, most stable.Most) api.Errno {
	loaded, err := disk.Load(x.Data)
	if err != api.OK {
		return err
	}
	store, err := stable.Open(loaded, most)
	if err != api.OK {
		return err
	}
	for k, data := range store.All() {
		h := home(k)
		d.records[h] = append(d.records[h], record{x.Server, k, data})
	}
	return api.OK
}

// held reads all records that have that home.
func (d disks) held(k api.Key) holding {
	h := holding{config: d.config, uptos: map[int]int{}, rows: map[int][]api.Instance{}}
	for _, r := range d.records[k] {
		if !d.belongs(r) || h.take(r) != api.OK {
			h.wrong = append(h.wrong, r.key)
		}
	}
	return h
}

// belongs tells whether a record's server stands in the group of its key; a key that is not right has none.
func (d disks) belongs(r record) bool {
	group, _ := d.ring.Group(r.key)
	return slices.Contains(group, r.server)
}
