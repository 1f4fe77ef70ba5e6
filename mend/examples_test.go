package mend_test

import (
	"strings"
	"testing"

	"cairn/api"
	"cairn/mend"
)

// Server 2 and server 5 of the chapter's examples: x, y, w, v are the commands of the instances 1, 2, 4, 3; z is another one.
func two() mend.Held { return held(0, "DD.D") }

func five() mend.Held { return held(1, "aD") }

func TestP1201Example1(t *testing.T) {
	ask := mend.Ask(5, 2, dir, five())
	mustAsk(t, dir, five(), asks(2))
	have := answers(2, false, command(2), zero, command(4))
	mustHave(t, ask, two(), have)
	mustTake(t, have, five(), brings(2, command(2)), brings(4, command(4)))
	list, _, _ := mend.Take(have, five())
	mustAsk(t, dir, lay(five(), list), asks(5))
}

func TestP1202Example2(t *testing.T) {
	ask := mend.Ask(2, 5, dir, two())
	want := api.Msg{Kind: api.MAsk, From: server(2), To: server(5), Key: dir, Stamp: stamp(3, 0)}
	if !sameMsg(ask, want) {
		t.Fatalf("%+v, not %+v", ask, want)
	}
	have := api.Msg{Kind: api.MHave, From: server(5), To: server(2), Key: dir, Stamp: stamp(3, 0), Commands: []api.Command{command(3)}}
	mustHave(t, ask, five(), have)
	mustTake(t, have, two(), brings(3, command(3)))
	list, _, _ := mend.Take(have, two())
	mustAsk(t, dir, lay(two(), list), asks(5))
}

func TestP1203Example3(t *testing.T) {
	have := answersBucket(trimmed(1), true)
	mustHave(t, asks(1), five(), have)
	mustTakeAndAsk(t, have, mend.Held{}, []mend.Change{{Key: dir, Bucket: trimmed(1)}}, asks(2))
	mustHave(t, asks(2), five(), answers(2, false, zero, command(3)))
	mustTakeAndAsk(t, have, two(), nil, asks(2))
}

func TestP1203Example4(t *testing.T) {
	a, b := holding(stamp(3, 1), "abc"), holding(stamp(3, 4), "xyz")
	mustTake(t, mend.Have(mend.Ask(5, 2, block, a), b), a, mend.Change{Key: block, Block: b.Block})
	mustTake(t, mend.Have(mend.Ask(5, 2, block, b), a), b)
}

func TestP1206Example5(t *testing.T) {
	a, b := mend.Held{}, held(0, strings.Repeat("D", 100))
	mustAsk(t, dir, a, asks(1))
	first := answers(1, true, commands(1, 64)...)
	mustHave(t, asks(1), b, first)
	mustTakeAndAsk(t, first, a, bringsAll(1, 64), asks(65))
	a = lay(a, bringsAll(1, 64))
	second := answers(65, false, commands(65, 100)...)
	mustHave(t, asks(65), b, second)
	mustTake(t, second, a, bringsAll(65, 100)...)
}
