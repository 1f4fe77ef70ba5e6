package acceptor_test

import (
	"math/bits"
	"testing"

	"cairn/api"
)

// The ballots of a search: neighbours by Client alone, and by N with the Clients the other way round.
func few() []api.Stamp { return []api.Stamp{none, stamp(1, 2), stamp(2, 1), stamp(2, 2)} }

// The command of each of these ballots' proposals, if it may choose any.
func theirs() []api.Command { return []api.Command{nothing, x, y, z} }

func numberOf[T comparable](list []T, v T) uint8 {
	for n, w := range list {
		if w == v {
			return uint8(n)
		}
	}
	return uint8(len(list))
}

// cell is an instance in small numbers: places in few and theirs.
type cell struct {
	promised, accepted, command uint8
	decided                     bool
}

func cellOf(i api.Instance) cell {
	return cell{numberOf(few(), i.Promised), numberOf(few(), i.Accepted), numberOf(theirs(), i.Command), i.Decided}
}

func (c cell) instance() api.Instance {
	return api.Instance{Promised: few()[c.promised], Accepted: few()[c.accepted], Command: theirs()[c.command], Decided: c.decided}
}

// note is a promise that is counted.
type note struct {
	counted       bool
	held, command uint8
}

// state is all that P805 speaks of: at most 5 instances; by proposal its promises, what it has chosen (0: nothing), and, as bits, who accepted it at any time.
type state struct {
	at     [5]cell
	notes  [4][5]note
	chosen [4]uint8
	took   [4]uint8
}

// search goes through every state that P805 lets 2f + 1 instances come to.
type search struct {
	rules
	f, proposals int
	seen         map[state]struct{}
	todo         []state
	fault        string
}

// decided are the commands that F + 1 instances of the state accepted at one ballot, as bits.
func (s *search) decided(st state) uint8 {
	var set uint8
	for q, took := range st.took {
		if bits.OnesCount8(took) > s.f {
			set |= 1 << st.chosen[q]
		}
	}
	return set
}

func (s *search) reach(st state) {
	if bits.OnesCount8(s.decided(st)) > 1 {
		s.fault = "two commands are decided"
	}
	if _, there := s.seen[st]; !there {
		s.seen[st] = struct{}{}
		s.todo = append(s.todo, st)
	}
}

func (s *search) hear(st state, m api.Msg) {
	if m.Kind == api.MKnown && s.decided(st)&(1<<numberOf(theirs(), m.Command)) == 0 {
		s.fault = "known, but not decided"
	}
}

// prepares hands a proposal to an instance: the answer is lost, or is counted. A proposal chooses as soon as it may: to wait would show it nothing else.
func (s *search) prepares(st state, q, k int) {
	i, m, _ := s.prepare(st.at[k].instance(), few()[q])
	st.at[k] = cellOf(i)
	s.hear(st, m)
	s.reach(st)
	if m.Kind != api.MPromise || st.chosen[q] != 0 {
		return
	}
	st.notes[q][k] = note{true, numberOf(few(), m.Held), numberOf(theirs(), m.Command)}
	best, count := note{command: uint8(q)}, 0
	for _, n := range st.notes[q] {
		if n.counted {
			count++
		}
		if n.held > best.held {
			best = n
		}
	}
	if count > s.f {
		st.chosen[q], st.notes[q] = best.command, [5]note{}
	}
	s.reach(st)
}

func (s *search) accepts(st state, q, k int) {
	i, m, _ := s.accept(st.at[k].instance(), few()[q], theirs()[st.chosen[q]])
	st.at[k] = cellOf(i)
	s.hear(st, m)
	if m.Kind == api.MAccepted {
		st.took[q] |= 1 << k
	}
	s.reach(st)
}

func (s *search) learns(st state, k int) {
	set := s.decided(st)
	for c, command := range theirs() {
		if set&(1<<c) != 0 {
			next := st
			i, _ := s.learned(st.at[k].instance(), command)
			next.at[k] = cellOf(i)
			s.reach(next)
		}
	}
}

// run tells the first fault that it comes to, and how many states it saw.
func (s *search) run() (string, int) {
	s.seen = map[state]struct{}{}
	s.reach(state{})
	for len(s.todo) > 0 && s.fault == "" {
		st := s.todo[len(s.todo)-1]
		s.todo = s.todo[:len(s.todo)-1]
		for k := range 2*s.f + 1 {
			for q := 1; q <= s.proposals; q++ {
				s.prepares(st, q, k)
				if st.chosen[q] != 0 {
					s.accepts(st, q, k)
				}
			}
			s.learns(st, k)
		}
	}
	return s.fault, len(s.seen)
}

func TestP805EveryPlay(t *testing.T) {
	for _, c := range []struct{ f, proposals int }{{0, 1}, {0, 2}, {0, 3}, {1, 1}, {1, 2}, {1, 3}, {2, 1}, {2, 2}} {
		s := search{rules: own, f: c.f, proposals: c.proposals}
		if fault, n := s.run(); fault != "" {
			t.Errorf("F %d, %d proposals: %s, behind %d states", c.f, c.proposals, fault, n)
		}
	}
}
