package mend_test

import (
	"math/rand"
	"testing"

	"cairn/api"
	"cairn/mend"
)

// mustBePlain holds each call against the plain one: the question, the answers to all of these, what is made of all of those.
func mustBePlain(t *testing.T, h mend.Held, questions, replies []api.Msg) {
	var p plain
	for _, k := range []api.Key{dir, block, at(1)} {
		mustAsk(t, k, h, p.Ask(5, 2, k, h))
	}
	for _, m := range questions {
		mustHave(t, m, h, p.Have(m, h))
	}
	for _, m := range replies {
		list, next, _ := p.Take(m, h)
		mustTakeAndAsk(t, m, h, list, next)
	}
}

// allReplies are of every bucket and every list of up to three Commands, each that of its instance, another one or none, from low on; with More and without.
func allReplies(low, high int) []api.Msg {
	var all []api.Msg
	for n := low; n <= high; n++ {
		for _, more := range []bool{false, true} {
			all = append(all, answersBucket(trimmed(max(n, 1)), more))
			for _, w := range append(words("Do.", 3), ".", "..", "D.", "o..") {
				var list []api.Command
				for i, letter := range w {
					list = append(list, map[rune]api.Command{'D': command(n + i), 'o': other(n + i)}[letter])
				}
				all = append(all, answers(n, more, list...))
			}
		}
	}
	return all
}

// Every short row behind every low Upto, and behind every one near the end: every question, and every short answer.
func TestP1203EveryShortRow(t *testing.T) {
	t.Parallel()
	for _, ends := range [][2]int{{0, 2}, {last - 3, last}} {
		var questions []api.Msg
		for n := ends[0] - 2; n <= ends[1]+9; n++ {
			questions = append(questions, asks(n))
		}
		replies := allReplies(ends[0]-1, ends[1]+6)
		for _, h := range helds(ends[0], ends[1], 4) {
			mustBePlain(t, h, questions, replies)
		}
	}
}

// aRow is a random one of so many instances or fewer; dense says how likely one is decided.
func aRow(r *rand.Rand, upto, most int, dense float64) mend.Held {
	letters := make([]byte, min(r.Intn(most+1), last-upto))
	for i := range letters {
		letters[i] = "ap."[r.Intn(3)]
		if r.Float64() < dense {
			letters[i] = 'D'
		}
	}
	h := held(upto, string(letters))
	if r.Intn(3) == 0 {
		h.Block = api.Block{Stamp: stamp(r.Intn(4), r.Intn(4)), Data: []byte("abc")}
	}
	return h
}

// anUpto is one of those at which something may be other than elsewhere, or any.
func anUpto(r *rand.Rand, most int) int {
	switch r.Intn(4) {
	case 0:
		return 0
	case 1:
		return r.Intn(most)
	case 2:
		return last - r.Intn(most)
	}
	return 500 + r.Intn(most)
}

func TestP1203LongRows(t *testing.T) {
	t.Parallel()
	r := rand.New(rand.NewSource(12))
	for range 600 {
		upto := anUpto(r, 80)
		h := aRow(r, upto, 200, []float64{0, 0.3, 0.9, 1}[r.Intn(4)])
		var questions, replies []api.Msg
		for range 12 {
			n := upto - 70 + r.Intn(340)
			questions = append(questions, asks(n))
			many := []int{1, 5, 63, 64, 65, 128}[r.Intn(6)]
			list := make([]api.Command, many)
			for i := range list {
				list[i] = []api.Command{zero, command(n + i), other(n + i)}[r.Intn(3)]
			}
			replies = append(replies, answers(n, r.Intn(2) == 0, list...))
			if b := upto - 3 + r.Intn(200); b > 0 {
				replies = append(replies, answersBucket(trimmed(b), r.Intn(2) == 0))
			}
			questions = append(questions, askBlock())
			replies = append(replies, answersBlock(stamp(r.Intn(4), r.Intn(4)), "xyz"))
		}
		mustBePlain(t, h, questions, replies)
	}
}
