package client_test

import (
	"fmt"
	"slices"
	"testing"

	"cairn/api"
)

// site has servers, clients that ask them in turns, and the store that they are held against.
type site struct {
	c       api.Config
	at      map[int]host
	clients []*watch
	ways    [][]api.Packet // by client: what it has sent, and is under way
	store   *store
	fault   string
}

func newSite(c api.Config, clients ...machine) *site {
	s := &site{c: c, at: map[int]host{}, store: newStore(c)}
	for _, id := range c.Servers {
		s.at[id] = newKeeper(c)
	}
	for _, m := range clients {
		s.clients = append(s.clients, newWatch(m))
	}
	s.ways = make([][]api.Packet, len(clients))
	return s
}

func (s *site) says(format string, a ...any) {
	if s.fault == "" {
		s.fault = fmt.Sprintf(format, a...)
	}
}

// loss says, for one exchange, of which servers the answers do not come: to those that are down nothing comes, of the mute ones the answer is lost.
type loss struct{ down, mute []int }

// exchange is one of W17.
func (s *site) exchange(who int, l loss) {
	c := s.clients[who]
	var answers []api.Packet
	for _, p := range append(s.ways[who], c.Tick()...) {
		if slices.Contains(l.down, p.To.Id) {
			continue
		}
		list := s.at[p.To.Id].Step(p.Data)
		if !slices.Contains(l.mute, p.To.Id) {
			answers = append(answers, list...)
		}
	}
	s.ways[who] = nil
	for _, a := range answers {
		s.ways[who] = append(s.ways[who], c.Step(a.Data)...)
	}
}

// do plays one operation to its end, and holds its result against the store. Of what a client has under way at its Invoke, and of that one's packets, all is lost or nothing. It tells how many exchanges it took.
func (s *site) do(who int, o api.Op, most int, lost bool, losses func(group []int) loss) int {
	c := s.clients[who]
	list, err := c.Invoke(o)
	if err != api.OK {
		s.says("%+v: %v", o, err)
		return 0
	}
	if s.ways[who] = append(s.ways[who], list...); lost {
		s.ways[who] = nil
	}
	n := 0
	for c.Pending() && n < most && c.fault == "" {
		s.exchange(who, losses(c.group()))
		n++
	}
	if c.fault != "" {
		s.says("client %d: %s", c.Id(), c.fault)
	}
	want := s.store.do(o, c.Id(), c.Number())
	if r, done := c.Done(); !done || !sameResult(r, want) {
		s.says("client %d, %d: %+v: behind %d exchanges %+v, %v; not %+v", c.Id(), c.Number(), o, n, r, done, want)
	}
	return n
}

// subsets are all ways to choose up to most of some.
func subsets(of []int, most int) [][]int {
	if len(of) == 0 {
		return [][]int{nil}
	}
	var all [][]int
	for _, rest := range subsets(of[1:], most) {
		all = append(all, rest)
		if len(rest) < most {
			all = append(all, append([]int{of[0]}, rest...))
		}
	}
	return all
}

// Every row of two operations, at each exchange with each choice of those who do not answer.
func TestP1410EveryLoss(t *testing.T) {
	t.Parallel()
	c := four()
	c.Room = 1
	one, other, first := nameIn(c, 3, 0), nameIn(c, 3, 1), file(me, 1)
	ops := []api.Op{
		create(one), create(other), remove(one), lookup(one), list(3), setSize(one, first, 6), setSize(one, file(6, 6), 2), grow(one, first, 6),
		replace(one, first, file(9, 9), 3), read(first, 0), write(first, 0, "8 bytes."),
	}
	for i, a := range ops {
		t.Run(fmt.Sprint(i), func(t *testing.T) {
			t.Parallel()
			for _, b := range ops {
				for set := range 1 << 9 { // two bits an exchange: who of three does not answer, or none
					lost := set>>8 == 0
					s := newSite(c, made(t, c, me))
					exchanges := 0
					losses := func(group []int) loss {
						who := subsets(group, 1)[set>>(2*exchanges)&3]
						if exchanges++; exchanges%2 == 0 {
							return loss{mute: who}
						}
						return loss{down: who}
					}
					s.do(0, a, 2, lost, losses)
					s.do(0, b, 2, !lost, losses)
					if s.fault != "" {
						t.Fatalf("%+v, %+v, losses %b: %s", a, b, set, s.fault)
					}
				}
			}
		})
	}
}

// rightOp is one that is not refused at once.
func (r lot) rightOp(c api.Config) api.Op {
	for {
		if o := r.op(c); newPlain(c, me, "").refused(o) == api.OK {
			return o
		}
	}
}

// aimed is one that mostly names what there is.
func (r lot) aimed(s *store) api.Op {
	o := r.rightOp(s.c)
	if list := s.in(bucketOf(s.c, lookup(o.Name))); o.File != file(0, 0) && !isBlock(o) && len(list) > 0 && r.Intn(4) > 0 {
		e := oneOf(r, list...)
		o.Name, o.File = e.Name, e.File
	}
	return o
}

// losses draws up to F of a group, some of which are down and some mute.
func (r lot) losses(f int) func(group []int) loss {
	return func(group []int) loss {
		var l loss
		for _, i := range r.Perm(len(group))[:r.Intn(f+1)] {
			if r.Intn(2) == 0 {
				l.down = append(l.down, group[i])
			} else {
				l.mute = append(l.mute, group[i])
			}
		}
		return l
	}
}

func sites() []api.Config {
	return []api.Config{
		four(), seven(), least(),
		{Servers: []int{1, 2, 3, 4, 5, 6}, F: 2, Points: 4, Buckets: 3, Block: 5, Room: 3},
		{Servers: []int{8, 7, 6, 5, 4, 3, 2, 1}, F: 3, Points: 8, Buckets: 5, Block: 16, Room: 1},
	}
}

// alone plays one client, and tells the first fault and how often there was which error.
func alone(c api.Config, m machine, seed int64, ops int, errors map[api.Errno]int) string {
	r := randomly(seed)
	s := newSite(c, m)
	for range ops {
		s.do(0, r.aimed(s.store), 2, r.Intn(2) == 0, r.losses(c.F))
		if s.fault != "" {
			return s.fault
		}
		result, _ := m.Done()
		errors[result.Err]++
	}
	return ""
}

func TestP1410Alone(t *testing.T) {
	t.Parallel()
	for _, c := range sites() {
		t.Run(fmt.Sprint("F ", c.F, " of ", len(c.Servers)), func(t *testing.T) {
			t.Parallel()
			errors := map[api.Errno]int{}
			for seed := range int64(20) {
				if fault := alone(c, made(t, c, me), seed, 150, errors); fault != "" {
					t.Fatalf("seed %d: %s", seed, fault)
				}
			}
			for _, err := range []api.Errno{api.OK, api.ErrExists, api.ErrNotFound, api.ErrRoom, api.ErrStale} {
				if errors[err] < 10 {
					t.Errorf("too few of an error to tell: %v", errors)
				}
			}
		})
	}
}

// A client that has a rule of the chapter broken is found out: else these plays would say nothing of the right one.
func TestP1410WrongRulesAreFoundOut(t *testing.T) {
	t.Parallel()
	for _, wrong := range []string{
		"rounds of chains alone", "rounds of registers alone", "rounds begin anew", "ballots by bucket", "reads have no number",
		"the group of the first block", "the first block", "all servers", "no zeros", "a grown one is set", "a replaced one is as it was", "one size", "room for all", "chains are not kept",
	} {
		fault := ""
		for seed := int64(0); seed < 50 && fault == ""; seed++ {
			fault = alone(seven(), newPlain(seven(), me, wrong), seed, 100, map[api.Errno]int{})
		}
		if fault == "" {
			t.Errorf("%s: no play tells a fault", wrong)
		}
	}
	for seed := range int64(5) {
		if fault := alone(seven(), newPlain(seven(), me, ""), seed, 100, map[api.Errno]int{}); fault != "" {
			t.Errorf("the chapter's words: %s", fault)
		}
	}
}
