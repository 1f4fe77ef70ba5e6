package mend_test

import (
	"math"
	"strings"
	"testing"

	"cairn/api"
	"cairn/mend"
)

func askBlock() api.Msg {
	return api.Msg{Kind: api.MAsk, From: server(5), To: server(2), Key: block}
}

func TestP1202Block(t *testing.T) {
	for _, s := range []api.Stamp{stamp(1, 1), stamp(3, 1), stamp(3, 255), stamp(api.MaxNum, 255)} {
		mustHave(t, askBlock(), holding(s, "abc"), answersBlock(s, "abc"))
		mustHave(t, askBlock(), holding(s, ""), answersBlock(s, ""))
		mustHave(t, askBlock(), holding(s, strings.Repeat("x", api.MaxBlock)), answersBlock(s, strings.Repeat("x", api.MaxBlock)))
	}
}

func TestP1202BlockThatIsNone(t *testing.T) {
	for _, data := range []string{"", "\x00\x00\x00", "abc"} {
		mustHave(t, askBlock(), holding(stamp(0, 0), data), answersBlock(stamp(0, 0), ""))
	}
	mustHave(t, askBlock(), mend.Held{}, answersBlock(stamp(0, 0), ""))
}

// Just {0, 0} is none: one number of it alone says nothing.
func TestP1202BlockWithAnyStamp(t *testing.T) {
	for _, s := range []api.Stamp{stamp(0, 1), stamp(1, 0), stamp(0, -1), stamp(-1, 0), stamp(math.MinInt, math.MaxInt), stamp(api.MaxNum+1, 256)} {
		mustHave(t, askBlock(), holding(s, "abc"), answersBlock(s, "abc"))
	}
}

// Of a block the question's Stamp is not looked at, nor anything else of it; nor is what is held of a bucket.
func TestP1202BlockLooksAtItsKeyAlone(t *testing.T) {
	h := held(3, "DD.D")
	h.Block = api.Block{Stamp: stamp(3, 1), Data: []byte("abc")}
	for _, n := range []int{math.MinInt, -1, 0, 1, 3, 4, last + 1, last + 2, math.MaxInt} {
		ask := askBlock()
		ask.Stamp = stamp(n, n)
		mustHave(t, ask, h, answersBlock(stamp(3, 1), "abc"))
		mustHave(t, filled(ask), h, answersBlock(stamp(3, 1), "abc"))
	}
}

// filled is a message with all set that its kind does not name.
func filled(m api.Msg) api.Msg {
	m.Op, m.Round, m.Held, m.Command, m.More = 8, 9, stamp(6, 6), other(1), true
	m.Stamp.Client = 77
	m.Block, m.Bucket, m.Commands = []byte("junk"), trimmed(9), commands(5, 9)
	return m
}

func TestP1202Commands(t *testing.T) {
	for _, x := range []struct {
		upto int
		row  string
		n    int
		want []api.Command
	}{
		{0, "D", 1, commands(1, 1)}, {0, "DDD", 1, commands(1, 3)}, {0, "DDD", 2, commands(2, 3)}, {0, "DDD", 3, commands(3, 3)},
		{0, ".D", 1, []api.Command{zero, command(2)}}, {0, "aD", 1, []api.Command{zero, command(2)}}, {0, "pD", 1, []api.Command{zero, command(2)}},
		{0, "D.aD", 1, []api.Command{command(1), zero, zero, command(4)}}, {0, "D.aD", 2, []api.Command{zero, zero, command(4)}}, {0, "D.aD", 4, commands(4, 4)},
		{0, "DDap", 1, commands(1, 2)}, {0, "Da", 1, commands(1, 1)}, {0, "D.p", 1, commands(1, 1)},
		{1, "D", 2, commands(2, 2)}, {4, "DD.D", 5, []api.Command{command(5), command(6), zero, command(8)}}, {4, "DD.D", 6, []api.Command{command(6), zero, command(8)}},
		{4, "ap.D", 5, []api.Command{zero, zero, zero, command(8)}}, {4, "ap.Dp", 7, []api.Command{zero, command(8)}},
		{last - 1, "D", last, commands(last, last)}, {last - 2, ".D", last - 1, []api.Command{zero, command(last)}}, {last - 2, "Da", last - 1, commands(last-1, last-1)},
	} {
		mustHave(t, asks(x.n), held(x.upto, x.row), answers(x.n, false, x.want...))
	}
}

// Who asks behind the top is answered that there is nothing.
func TestP1202BehindTheTop(t *testing.T) {
	for _, h := range []mend.Held{{}, held(0, "a"), held(0, "pap"), held(0, "D"), held(0, "Dap"), held(0, ".D"), held(1, ""), held(1, "a")} {
		for _, n := range []int{3, 4, 63, 64, 65, 66, last, last + 1} {
			mustHave(t, asks(n), h, answers(n, false))
		}
	}
	mustHave(t, asks(1), mend.Held{}, answers(1, false))
	mustHave(t, asks(1), held(0, "ap"), answers(1, false))
	mustHave(t, asks(2), held(1, "ap"), answers(2, false))
	for _, h := range []mend.Held{held(last, ""), held(last-1, "D"), held(last-1, "a"), held(last-1, ""), held(last-2, "DD")} {
		mustHave(t, asks(last+1), h, answers(last+1, false))
	}
}

func TestP1202Trimmed(t *testing.T) {
	for _, x := range []struct {
		upto int
		row  string
		more bool
	}{
		{1, "", false}, {1, "D", true}, {1, "aD", true}, {1, "a", false}, {1, "ap", false}, {1, ".D", true},
		{5, "", false}, {5, "D", true}, {5, "pap", false}, {5, "..D", true}, {5, "Da", true}, {5, strings.Repeat("D", 200), true},
		{last, "", false}, {last - 1, "", false}, {last - 1, "D", true}, {last - 1, "a", false},
	} {
		h, want := held(x.upto, x.row), answersBucket(trimmed(x.upto), x.more)
		for _, n := range []int{1, 2, x.upto - 1, x.upto} {
			if n >= 1 && n <= x.upto {
				mustHave(t, asks(n), h, want)
			}
		}
		if got := mend.Have(asks(x.upto+1), h); got.Bucket.Upto != 0 || got.Stamp != stamp(x.upto+1, 0) {
			t.Fatalf("behind Upto %d: %+v", x.upto, got)
		}
	}
}

// A bucket that is trimmed without an entry is told all the same.
func TestP1202TrimmedToNothing(t *testing.T) {
	h := mend.Held{Bucket: api.Bucket{Upto: 3}}
	mustHave(t, asks(3), h, answersBucket(api.Bucket{Upto: 3}, false))
	mustHave(t, asks(4), h, answers(4, false))
}

// One message holds MaxHeld instances, decided or not.
func TestP1202AtMostMaxHeld(t *testing.T) {
	if api.MaxHeld != 64 {
		t.Fatal("the numbers below are of MaxHeld 64")
	}
	for _, many := range []int{1, 2, 62, 63, 64, 65, 66, 127, 128, 129, 200} {
		for _, upto := range []int{0, 1, 30, last - 200} {
			all, gaps := held(upto, strings.Repeat("D", many)), held(upto, strings.Repeat(".", many-1)+"D")
			for _, skip := range []int{0, 1, 5} {
				n, to := upto+1+skip, upto+many
				end := min(to, n+63)
				mustHave(t, asks(n), all, answers(n, to > end, commands(n, end)...))
				if to < n {
					continue
				}
				list := make([]api.Command, end-n+1)
				if end == to {
					list[to-n] = command(to)
				}
				mustHave(t, asks(n), gaps, answers(n, to > end, list...))
			}
		}
	}
}

// More hangs on the last one that is decided; what is held behind that one is nothing to tell.
func TestP1202MoreIsOfWhatIsDecided(t *testing.T) {
	for _, end := range []string{"a", "p", "ap", strings.Repeat("a", 70)} {
		mustHave(t, asks(1), held(0, strings.Repeat("D", 64)+end), answers(1, false, commands(1, 64)...))
		mustHave(t, asks(1), held(0, strings.Repeat("D", 64)+end+"D"), answers(1, true, commands(1, 64)...))
	}
	h := held(0, strings.Repeat("D", 64))
	h.Row = append(h.Row, mend.Place{N: last, Instance: decided(last)})
	mustHave(t, asks(1), h, answers(1, true, commands(1, 64)...))
	mustHave(t, asks(64), h, answers(64, true, append(commands(64, 64), make([]api.Command, 63)...)...))
	mustHave(t, asks(65), h, answers(65, true, make([]api.Command, 64)...))
	mustHave(t, asks(last-64), h, answers(last-64, true, make([]api.Command, 64)...))
	mustHave(t, asks(last-63), h, answers(last-63, false, append(make([]api.Command, 63), command(last))...))
	mustHave(t, asks(last), h, answers(last, false, command(last)))
	mustHave(t, asks(last+1), h, answers(last+1, false))
}

func TestP1202NoSuchInstance(t *testing.T) {
	for _, h := range []mend.Held{{}, held(0, "DDD"), held(5, ""), held(5, "D"), held(last, ""), held(last-1, "D")} {
		for _, n := range []int{math.MinInt, -64, -1, 0, last + 2, last + 65, math.MaxInt - 64, math.MaxInt} {
			mustHave(t, asks(n), h, none)
		}
	}
}

// Of the question its kind, its key, whose it is and Stamp's N are looked at, and nothing else.
func TestP1202LooksAtNothingElse(t *testing.T) {
	h := held(3, "DD.D")
	h.Block = api.Block{Stamp: stamp(3, 1), Data: []byte("abc")}
	for n := 1; n <= 9; n++ {
		mustHave(t, filled(asks(n)), h, mend.Have(asks(n), h))
	}
	mustHave(t, filled(asks(4)), h, answers(4, false, command(4), command(5), zero, command(7)))
	mustHave(t, filled(asks(3)), h, answersBucket(trimmed(3), true))
}

// What is decided is told as it is held, whatever command it is.
func TestP1202AnyCommandThatIsHeld(t *testing.T) {
	odd := api.Command{Kind: 99, Client: -1, Op: math.MinInt, Name: strings.Repeat("/", 300), File: api.File{Client: -5}, New: api.File{Op: -5}, Size: -1}
	h := mend.Held{Row: []mend.Place{{N: 2, Instance: api.Instance{Command: odd, Decided: true}}}}
	mustHave(t, asks(1), h, answers(1, false, zero, odd))
	h.Bucket = api.Bucket{Upto: 1, Entries: []api.Entry{{Name: "", Size: -1}, {Name: ""}}, Lasts: []api.Last{{Client: -1}}}
	mustHave(t, asks(1), h, answersBucket(h.Bucket, true))
	mustHave(t, asks(2), h, answers(2, false, odd))
}

func TestP1202AnswersGoBack(t *testing.T) {
	odd := []api.Addr{server(5), server(0), server(-1), {Client: true, Id: 7}, {Client: true}, server(math.MaxInt)}
	for _, from := range odd {
		for _, to := range odd {
			for _, k := range []api.Key{block, dir, {Kind: api.KBucket, A: -1, B: 8, C: 9}, {Kind: api.KBlock, A: -1, B: -1, C: -1}} {
				ask := api.Msg{Kind: api.MAsk, From: from, To: to, Key: k, Stamp: stamp(2, 0)}
				got := mend.Have(ask, held(0, "DD"))
				if got.Kind != api.MHave || got.From != to || got.To != from || got.Key != k {
					t.Fatalf("%+v is answered %+v", ask, got)
				}
			}
		}
	}
}

func TestP1202OtherMessages(t *testing.T) {
	h := held(1, "DD")
	h.Block = api.Block{Stamp: stamp(3, 1), Data: []byte("abc")}
	for kind := -1; kind <= 30; kind++ {
		for _, k := range []api.Key{block, dir, at(2), {}} {
			if kind == api.MAsk && (k == block || k == dir) {
				continue
			}
			m := api.Msg{Kind: kind, From: server(5), To: server(2), Key: k, Stamp: stamp(2, 0)}
			mustHave(t, m, h, none)
			mustHave(t, filled(m), h, none)
		}
	}
	for _, kind := range []int{math.MinInt, -1, 0, api.KInstance, 4, math.MaxInt} {
		mustHave(t, api.Msg{Kind: api.MAsk, From: server(5), To: server(2), Key: api.Key{Kind: kind, A: 3}, Stamp: stamp(2, 0)}, h, none)
	}
	mustHave(t, none, h, none)
}
