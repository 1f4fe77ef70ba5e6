package register_test

import (
	"math"
	"math/rand"
	"testing"

	"cairn/api"
	"cairn/tally"
)

// step is one call of a machine; of Take with its message.
type step struct {
	call string
	msg  api.Msg
}

func (s step) on(m tally.Machine) []api.Msg {
	switch s.call {
	case "Begin":
		return m.Begin()
	case "Tick":
		return m.Tick()
	}
	return m.Take(s.msg)
}

// mustFollow takes steps with a machine, and with the chapter's words.
func mustFollow(t *testing.T, of plain, steps ...step) {
	p := plainOf(of)
	m := p.machine(of.group)
	for i, s := range steps {
		list, want := s.on(m), s.on(p)
		if !sameMsgs(list, want) {
			t.Fatalf("%+v, at the last of %v: it tells\n%v, not\n%v", of, steps[:i+1], list, want)
		}
		mustAgree(t, m, p)
	}
}

// smallMachines are of one group and round; each a Write or a Read.
func smallMachines() []plain {
	var list []plain
	for _, write := range []bool{true, false} {
		for _, servers := range [][]int{{1}, {2, 1}, {3, 1, 2}, {1, 1}} {
			list = append(list, plain{write: write, client: client, op: op, key: key, group: servers, round: round, size: 2, data: []byte("ab")})
		}
	}
	return list
}

// Every row of four calls, and of up to five behind a Begin, with each answer that the servers may give in either phase.
func TestP703EveryRowOfCalls(t *testing.T) {
	var alphabet []step
	for id := 1; id <= 3; id++ {
		alphabet = append(alphabet, step{"Take", value(id, stamp(id%2, id%2), string(rune('a'+id)))}, step{"Take", ack(id)})
	}
	alphabet = append(alphabet, step{call: "Begin"}, step{call: "Tick"})
	for _, of := range smallMachines() {
		behind := min(len(of.group)+2, 5) // what a greater group needs to come to its end
		everyRow(nil, behind, alphabet, func(steps []step) {
			mustFollow(t, of, append([]step{{call: "Begin"}}, steps...)...)
		})
		everyRow(nil, 4, alphabet, func(steps []step) { mustFollow(t, of, steps...) })
	}
}

func everyRow(row []step, more int, of []step, do func([]step)) {
	if more == 0 {
		do(row)
		return
	}
	for _, s := range of {
		everyRow(append(row[:len(row):len(row)], s), more-1, of, do)
	}
}

// oneOf is one of these.
func oneOf[T any](r *rand.Rand, list ...T) T { return list[r.Intn(len(list))] }

func anyMachine(r *rand.Rand) plain {
	p := plain{write: r.Intn(2) == 0, client: client, op: op, key: key, data: []byte("ab")}
	p.round = oneOf(r, round, round, round, 1, 0, api.MaxNum, api.MaxNum-1, api.MaxNum+1)
	p.size = oneOf(r, 2, 0, -1, api.MaxBlock, api.MaxBlock+1)
	for range r.Intn(9) {
		p.group = append(p.group, r.Intn(5))
	}
	return p
}

func anyStamp(r *rand.Rand) api.Stamp {
	if r.Intn(3) == 0 {
		return stamp(3, 8)
	}
	n := oneOf(r, 0, 0, 1, 2, 3, 3, 3, -1, api.MaxNum-1, api.MaxNum, api.MaxNum+1, math.MinInt, math.MaxInt)
	return stamp(n, oneOf(r, 0, 0, 1, 2, 8, 8, -1, 255))
}

// anyStep is mostly an answer to what is asked in the present round, or near it.
func anyStep(r *rand.Rand, now int) step {
	if n := r.Intn(12); n < 2 {
		return step{call: []string{"Begin", "Tick"}[n]}
	}
	m := value(r.Intn(6), anyStamp(r), oneOf(r, "", "xy", "uvw"))
	m.Round = now
	if r.Intn(2) == 0 {
		m.Kind = api.MAck
	}
	switch r.Intn(16) {
	case 0:
		m.Round += oneOf(r, -1, 1)
	case 1:
		m.From.Client = true
	case 2:
		m.To.Id++
	case 3:
		m.Op--
	case 4:
		m.Key.C++
	case 5:
		m.Kind = r.Intn(25)
	}
	return step{"Take", m}
}

// Long rows of calls, with stamps, rounds, sizes and groups at their edges.
func TestP704ManyRowsOfCalls(t *testing.T) {
	r := rand.New(rand.NewSource(7))
	ends := map[api.Errno]int{}
	for range 60000 {
		of := anyMachine(r)
		p := plainOf(of)
		m := p.machine(of.group)
		if r.Intn(8) > 0 {
			mustTell(t, "Begin", m.Begin(), p.Begin()...)
		}
		for range 14 {
			s := anyStep(r, p.round)
			list, want := s.on(m), s.on(p)
			if !sameMsgs(list, want) {
				t.Fatalf("%+v, at %v: it tells\n%v, not\n%v", of, s, list, want)
			}
			mustAgree(t, m, p)
		}
		if result, done := m.Done(); done {
			ends[result.Err]++
		}
	}
	if ends[api.OK] < 1000 || ends[api.ErrWorn] < 1000 {
		t.Fatalf("too few rows come to an end: %v", ends)
	}
}

// The same calls in the same order tell the same.
func TestP3SameAgain(t *testing.T) {
	for seed := range int64(200) {
		var first [][]api.Msg
		for turn := range 5 {
			r := rand.New(rand.NewSource(seed))
			of := anyMachine(r)
			m := plainOf(of).machine(of.group)
			list := [][]api.Msg{m.Begin()}
			for range 14 {
				list = append(list, anyStep(r, m.Round()).on(m))
			}
			if turn == 0 {
				first = list
			}
			for i := range list {
				mustTell(t, "the same call again", list[i], first[i]...)
			}
		}
	}
}
