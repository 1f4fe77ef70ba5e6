package server

import "cairn/api"

// do lays down the records of a step: ErrFull, and none of them, if they have no room. A server that is armed falls by it, whatever it has come to.
func (s *Server) do(list []record) api.Errno {
	err := s.layAll(list)
	if s.armed || err == api.ErrFallen {
		s.store = nil
		return api.ErrFallen
	}
	return err
}

func (s *Server) layAll(list []record) api.Errno {
	if !s.store.Fits(s.newKinds(list)...) {
		return api.ErrFull
	}
	if s.armed {
		list = list[:min(s.after, len(list))]
	}
	for _, r := range list {
		if s.lay(r) != api.OK {
			return api.ErrFallen
		}
	}
	return api.OK
}

// newKinds are the kinds of the keys that take room anew. A record in another one's place needs none, nor does one that is dropped: it lies there.
func (s *Server) newKinds(list []record) []int {
	var kinds []int
	for _, r := range list {
		if !s.memory.lies(r.Key) {
			kinds = append(kinds, r.Key.Kind)
		}
	}
	return kinds
}

// lay changes one record: in the memory, and on the disk. If the disk falls at it, the memory is put back to what lies there.
func (s *Server) lay(r record) (err api.Errno) {
	back := s.memory.change(r)
	defer func() {
		if err != api.OK {
			back()
		}
	}()
	if r.gone {
		return s.store.Drop(r.Key)
	}
	return s.store.Put(r.Key, pack(r.Change, s.config))
}
