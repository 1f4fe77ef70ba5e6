package proposer_test

import (
	"testing"

	"cairn/api"
	"cairn/proposer"
)

// ofExamples is what the chapter's examples are of.
func ofExamples() *proposer.Proposer {
	return proposer.New(7, 4, api.Key{Kind: api.KInstance, A: 2, B: 5}, []int{1, 2, 3}, x, 3, 10)
}

func TestExample1(t *testing.T) {
	p := ofExamples()
	mustTell(t, "Begin", p.Begin(), prepares(10, stamp(3, 7), 1, 2, 3)...)
	mustTell(t, "Take", p.Take(promise(2, stamp(0, 0), none)))
	mustTell(t, "Take once more", p.Take(promise(2, stamp(0, 0), none)))
	mustTell(t, "Take", p.Take(promise(1, stamp(0, 0), none)), accepts(11, stamp(3, 7), x, 1, 2, 3)...)
	mustTell(t, "Take", p.Take(accepted(3)))
	mustTell(t, "Take", p.Take(accepted(1)), learned(11, x, 1, 2, 3)...)
	mustDecide(t, p, x, 3, 11)
}

func TestExample2(t *testing.T) {
	p := ofExamples()
	p.Begin()
	mustPassOver(t, p, promise(1, stamp(2, 9), y))
	mustTell(t, "Take", p.Take(promise(3, stamp(1, 7), z)), accepts(11, stamp(3, 7), y, 1, 2, 3)...)
}

func TestExample3(t *testing.T) {
	p := ofExamples()
	p.Begin()
	mustPassOver(t, p, nack(1, 8, 1), promise(2, stamp(0, 0), none))
	mustTell(t, "Tick", p.Tick(), prepares(11, stamp(9, 7), 1, 2, 3)...)
	p = ofExamples()
	p.Begin()
	mustPassOver(t, p, promise(2, stamp(0, 0), none))
	mustTell(t, "Tick", p.Tick(), prepares(10, stamp(3, 7), 1, 3)...)
}

func TestExample4(t *testing.T) {
	p := ofExamples()
	p.Begin()
	mustPassOver(t, p, promise(1, stamp(0, 0), none))
	p.Take(promise(2, stamp(0, 0), none))
	for id := 1; id <= 3; id++ {
		mustPassOver(t, p, inRound(nack(id, 4, 9), 11))
	}
	mustTell(t, "Tick", p.Tick(), prepares(12, stamp(5, 7), 1, 2, 3)...)
	mustGoOn(t, p, 5, 12)
}

func TestExample5(t *testing.T) {
	for _, second := range []bool{false, true} {
		for _, m := range []api.Msg{known(3, y), trimmed(3, aBucket())} {
			p, now := ofExamples(), 10
			p.Begin()
			if second {
				p.Take(promise(1, stamp(0, 0), none))
				p.Take(promise(3, stamp(0, 0), none))
				now = 11
			}
			mustPassOver(t, p, inRound(m, now))
			if m.Kind == api.MKnown {
				mustDecide(t, p, y, 3, now)
			} else {
				mustTrim(t, p, aBucket(), 3, now)
			}
		}
	}
}

func TestExample6(t *testing.T) {
	p := proposer.New(7, 4, key, []int{1, 2, 3}, x, 3, api.MaxNum)
	mustTell(t, "Begin", p.Begin(), prepares(api.MaxNum, stamp(3, 7), 1, 2, 3)...)
	mustPassOver(t, p, inRound(promise(1, stamp(0, 0), none), api.MaxNum))
	mustGoOn(t, p, 3, api.MaxNum)
	mustPassOver(t, p, inRound(promise(2, stamp(0, 0), none), api.MaxNum))
	mustWear(t, p, 3, api.MaxNum)
}
