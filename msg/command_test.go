package msg_test

import (
	"math"
	"strings"
	"testing"

	"cairn/api"
	"cairn/msg"
)

var names = []string{"", "a", "plum", long, long + "n", strings.Repeat("n", 1000), "/", "\x00", "a/b", "/a", "a/", "a\x00b", "a\x00", "\xff\xfe", "\x01", "é", ".", strings.Repeat("n", 254) + "/"}

var files = []api.File{{}, {Client: 1, Op: 1}, {Client: 255, Op: 1 << 40}, {Client: 0, Op: 1}, {Client: 1, Op: 0}, {Client: 256, Op: 1}, {Client: 1, Op: 1<<40 + 1}, {Client: -1, Op: 1}, {Client: 1, Op: -1}, {Client: math.MaxInt, Op: math.MaxInt}}

func sizes(c api.Config) []int {
	return []int{math.MinInt, -1, 0, 1, 1<<20*c.Block - 1, 1 << 20 * c.Block, 1<<20*c.Block + 1, math.MaxInt}
}

func mustCommand(t *testing.T, x api.Command, c api.Config) {
	t.Helper()
	if e := msg.Command(x, c); e != want(isCommand(x, c), api.ErrCommand) {
		t.Fatalf("%+v: %v", x, e)
	}
}

func TestP501Kinds(t *testing.T) {
	for _, x := range commands() {
		if e := msg.Command(x, small); e != api.OK {
			t.Errorf("%+v: %v", x, e)
		}
	}
	for _, kind := range []int{math.MinInt, -1, 0, 8, 9, 255, 256, 257, math.MaxInt} {
		for _, x := range commands() {
			x.Kind = kind
			if e := msg.Command(x, small); e != api.ErrCommand {
				t.Errorf("%+v: %v", x, e)
			}
		}
	}
	if e := msg.Command(api.Command{}, small); e != api.ErrCommand {
		t.Errorf("the zero Command: %v", e)
	}
}

func TestP501Names(t *testing.T) {
	for b := range 256 {
		for _, x := range commands() {
			x.Name = "x" + string([]byte{byte(b)}) + "y"
			if x.Kind == api.CList {
				x.Name = ""
			}
			if e := msg.Command(x, small); e != want(x.Name == "" || b != 0 && b != '/', api.ErrCommand) {
				t.Errorf("%+v: %v", x, e)
			}
		}
	}
}

// Each field with each of its edges, whatever stands in the others.
func TestP501All(t *testing.T) {
	for _, c := range []api.Config{small, great, least} {
		for kind := range 9 {
			for _, who := range []int{-1, 0, 1, 255, 256} {
				for _, op := range []int{-1, 0, 1, 1 << 40, 1<<40 + 1} {
					mustFields(t, api.Command{Kind: kind, Client: who, Op: op}, c)
				}
			}
		}
	}
}

func mustFields(t *testing.T, x api.Command, c api.Config) {
	t.Helper()
	for _, x.Name = range []string{"", "plum", "a/b"} {
		for _, x.File = range files {
			for _, x.New = range files {
				for _, x.Size = range sizes(c) {
					mustCommand(t, x, c)
				}
			}
		}
	}
}

func TestP501OneField(t *testing.T) {
	for _, c := range []api.Config{small, great, least} {
		for _, base := range commands() {
			for _, name := range names {
				x := base
				x.Name = name
				mustCommand(t, x, c)
			}
			for _, n := range append([]int{2, 254, 255, 256, 1<<40 - 1, 1 << 40, 1<<40 + 1}, edges...) {
				x, y := base, base
				x.Client, y.Op = n, n
				mustCommand(t, x, c)
				mustCommand(t, y, c)
			}
		}
	}
}
