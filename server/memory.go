package server

import (
	"maps"
	"slices"
	"sort"

	"cairn/api"
	"cairn/mend"
	"cairn/ring"
)

// memory is all records that lie on the disk, also those of instances that are forgotten, and of things that are none.
type memory struct {
	blocks  map[api.Key]api.Block
	buckets map[int]api.Bucket
	rows    map[int]map[int]api.Instance // by the bucket, by the instance
}

func newMemory() memory {
	return memory{map[api.Key]api.Block{}, map[int]api.Bucket{}, map[int]map[int]api.Instance{}}
}

// change has a record, or has it no more; it tells how that is put back.
func (m memory) change(r record) func() {
	switch k := r.Key; k.Kind {
	case api.KBlock:
		return set(m.blocks, k, r.Block)
	case api.KBucket:
		return set(m.buckets, k.A, r.Bucket)
	}
	row := m.row(r.Key.A)
	if r.gone {
		return unset(row, r.Key.B)
	}
	return set(row, r.Key.B, r.Instance)
}

// row is that of a bucket, to be changed.
func (m memory) row(number int) map[int]api.Instance {
	if m.rows[number] == nil {
		m.rows[number] = map[int]api.Instance{}
	}
	return m.rows[number]
}

func set[K comparable, V any](m map[K]V, k K, v V) func() {
	was, there := m[k]
	m[k] = v
	if there {
		return func() { m[k] = was }
	}
	return func() { delete(m, k) }
}

func unset[K comparable, V any](m map[K]V, k K) func() {
	was := m[k]
	delete(m, k)
	return func() { m[k] = was }
}

// lies tells whether there is a record under a key.
func (m memory) lies(k api.Key) bool {
	var there bool
	switch k.Kind {
	case api.KBlock:
		_, there = m.blocks[k]
	case api.KBucket:
		_, there = m.buckets[k.A]
	case api.KInstance:
		_, there = m.rows[k.A][k.B]
	}
	return there
}

// forgotten: a record may lie there still, as a fall left it; it counts no more.
func (m memory) forgotten(number, n int) bool {
	return n <= m.buckets[number].Upto
}

// instance is what is held of one: the zero one, where there is none.
func (m memory) instance(number, n int) api.Instance {
	if m.forgotten(number, n) {
		return api.Instance{}
	}
	return m.rows[number][n]
}

// decided are the commands of a bucket behind its Upto, as far as they are known without a gap, up to an instance.
func (m memory) decided(number, upto int) []api.Command {
	var list []api.Command
	for n := m.buckets[number].Upto; n < upto; n++ {
		i := m.instance(number, n+1)
		if !i.Decided {
			break
		}
		list = append(list, i.Command)
	}
	return list
}

// held is what a mend of a block or a bucket is told.
func (m memory) held(k api.Key) mend.Held {
	if k.Kind == api.KBlock {
		return mend.Held{Block: m.blocks[k]}
	}
	h := mend.Held{Bucket: m.buckets[k.A]}
	for _, n := range m.numbers(k.A) {
		if i := m.instance(k.A, n); i != (api.Instance{}) {
			h.Row = append(h.Row, mend.Place{N: n, Instance: i})
		}
	}
	return h
}

// numbers are the instances of a bucket under which a record lies, rising.
func (m memory) numbers(number int) []int {
	return slices.Sorted(maps.Keys(m.rows[number]))
}

// keys are those of which something is held that is not none.
func (m memory) keys() []api.Key {
	var list []api.Key
	for k, b := range m.blocks {
		if b.Stamp != (api.Stamp{}) {
			list = append(list, k)
		}
	}
	for number, b := range m.buckets {
		if b.Upto != 0 {
			list = append(list, bucketKey(number))
		}
	}
	for number, row := range m.rows {
		for n := range row {
			if m.instance(number, n) != (api.Instance{}) {
				list = append(list, instanceKey(number, n))
			}
		}
	}
	sort.Slice(list, func(i, j int) bool { return ring.Less(list[i], list[j]) })
	return list
}
