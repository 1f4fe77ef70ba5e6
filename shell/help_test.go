package shell_test

import (
	"fmt"
	"os"
	"runtime/debug"
	"strings"
	"testing"

	"cairn/api"
	"cairn/shell"
)

// Worlds are made by the thousand, and thrown away: with little alive, the collector may wait.
func TestMain(m *testing.M) {
	debug.SetGCPercent(1000)
	os.Exit(m.Run())
}

// These stand here to be compiled: the faces have these types.
var (
	_ func(line string) ([]string, api.Errno) = shell.Words
	_ func(b []byte) string                   = shell.Quote
	_ func(script string) string              = shell.Run
)

// small is the world of the chapter's examples; tiny one that is made soon.
const (
	small = "world 1 4 2 4 8 4096 1 2 3"
	tiny  = "world 1 1 1 1 1 64 1 2 3"
)

// answers are the lines of what a Run tells, which all end with a line feed.
func answers(t testing.TB, told string) []string {
	t.Helper()
	l := strings.Split(told, "\n")
	if l[len(l)-1] != "" {
		t.Fatalf("the last answer has no line feed: %q", cut(told))
	}
	return l[:len(l)-1]
}

// cut is the front of a long text.
func cut(s string) string { return s[:min(len(s), 200)] }

// run plays lines, and tells their answers.
func run(t testing.TB, lines ...string) []string {
	t.Helper()
	l := answers(t, shell.Run(strings.Join(lines, "\n")+"\n"))
	if len(l) != len(lines) {
		t.Fatalf("%d lines, %d answers", len(lines), len(l))
	}
	return l
}

// last is the answer of the last line.
func last(t testing.TB, lines ...string) string {
	t.Helper()
	return run(t, lines...)[len(lines)-1]
}

// talk holds answers against what they must be: each line has its answer behind it, parted by =>.
func talk(t testing.TB, lines ...string) {
	t.Helper()
	var script, want []string
	for _, l := range lines {
		line, told, there := strings.Cut(l, " => ")
		if !there {
			line, there = strings.CutSuffix(l, " =>")
		}
		if !there {
			t.Fatalf("%q: no answer", l)
		}
		script, want = append(script, line), append(want, told)
	}
	got := run(t, script...)
	for i := range got {
		if got[i] != want[i] {
			t.Errorf("line %d: %s: %s, not %s", i, cut(script[i]), cut(got[i]), cut(want[i]))
		}
	}
}

// all are lines that have one answer, as talk takes them.
func all(answer string, lines ...string) []string {
	var l []string
	for _, line := range lines {
		l = append(l, line+" => "+answer)
	}
	return l
}

// words are those of a line that needs no quotes.
func words(format string, l ...any) []string { return strings.Fields(fmt.Sprintf(format, l...)) }
