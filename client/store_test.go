package client_test

import (
	"bytes"
	"slices"
	"strings"

	"cairn/api"
)

// store is the sequential one: entries by name, blocks by file and index, asked one operation behind the other.
type store struct {
	c         api.Config
	entries   map[string]api.Entry
	blocks    map[api.Key]api.Block
	instances map[int]int // how many commands there were, by bucket
}

func newStore(c api.Config) *store {
	return &store{c, map[string]api.Entry{}, map[api.Key]api.Block{}, map[int]int{}}
}

// do is the result of an operation that is not refused at once.
func (s *store) do(o api.Op, client, op int) api.Result {
	k := block(o.File, o.N)
	switch b, there := s.blocks[k]; o.Kind {
	case api.ORead:
		if !there {
			b.Data = make([]byte, s.c.Block)
		}
		return api.Result{Data: b.Data, Stamp: b.Stamp}
	case api.OWrite:
		s.blocks[k] = api.Block{Stamp: stamp(b.Stamp.N+1, client), Data: bytes.Clone(o.Data)}
		return api.Result{Stamp: s.blocks[k].Stamp}
	}
	number := bucketOf(s.c, o)
	s.instances[number]++
	r := s.command(o, number, file(client, op))
	r.Instance = s.instances[number]
	return r
}

// in are the entries of a bucket, by name.
func (s *store) in(number int) []api.Entry {
	var list []api.Entry
	for name, e := range s.entries {
		if bucketOf(s.c, lookup(name)) == number {
			list = append(list, e)
		}
	}
	slices.SortFunc(list, func(a, b api.Entry) int { return strings.Compare(a.Name, b.Name) })
	return list
}

func (s *store) command(o api.Op, number int, mine api.File) api.Result {
	e, there := s.entries[o.Name]
	switch {
	case o.Kind == api.OList:
		return api.Result{List: s.in(number)}
	case o.Kind == api.OCreate && there:
		return api.Result{Err: api.ErrExists, Entry: e}
	case o.Kind == api.OCreate && len(s.in(number)) >= s.c.Room:
		return api.Result{Err: api.ErrRoom}
	case o.Kind == api.OCreate:
		s.entries[o.Name] = entry(o.Name, mine, 0)
		return api.Result{Entry: s.entries[o.Name]}
	case !there:
		return api.Result{Err: api.ErrNotFound}
	case o.Kind == api.ORemove:
		delete(s.entries, o.Name)
		return api.Result{Entry: e}
	case o.Kind == api.OLookup:
		return api.Result{Entry: e}
	case e.File != o.File:
		return api.Result{Err: api.ErrStale, Entry: e}
	}
	switch o.Kind {
	case api.OSetSize:
		e.Size = o.N
	case api.OGrow:
		e.Size = max(e.Size, o.N)
	case api.OReplace:
		e.File, e.Size = o.New, o.N
	}
	s.entries[o.Name] = e
	return api.Result{Entry: e}
}
