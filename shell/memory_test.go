package shell_test

import (
	"bytes"
	"fmt"
	"runtime"
	"slices"
	"strings"
	"sync"
	"testing"
	"time"

	"cairn/api"
	"cairn/shell"
)

// What Words tells is the asker's own, its spare room too.
func TestP2WordsAreNew(t *testing.T) {
	t.Parallel()
	for _, line := range []string{"a b c", `"a" "b" "c"`, `a "" \ # x`, "a", `""`, "a b c d e f g h i"} {
		l, _ := shell.Words(line)
		m, _ := shell.Words(line)
		want := slices.Clone(l)
		l = l[:cap(l)]
		for i := range l {
			l[i] = "spoilt"
		}
		_ = append(m[:len(m):cap(m)], "more")
		if n, _ := shell.Words(line); !slices.Equal(m, want) || !slices.Equal(n, want) {
			t.Errorf("%q: %q, %q, not %q", line, m, n, want)
		}
	}
}

// Of a line that is refused nothing is told, nor of one without words.
func TestP4NoWords(t *testing.T) {
	t.Parallel()
	for _, line := range []string{`a b "`, `"a" "\q"`, `a"`, "", " ", "#", "\t# a"} {
		if l, err := shell.Words(line); len(l) > 0 || err != api.OK && err != api.ErrWord {
			t.Errorf("%q: %q, %v", line, l, err)
		}
	}
}

// What is handed to Quote is not changed, nor what lies behind it, and not kept.
func TestP2QuoteLeavesItsBytes(t *testing.T) {
	t.Parallel()
	whole := []byte("a\"b\\\n\x00xyz")
	kept := bytes.Clone(whole)
	for n := range len(whole) + 1 {
		q := shell.Quote(whole[:n])
		if !bytes.Equal(whole, kept) {
			t.Fatalf("%d: %q", n, whole)
		}
		other := bytes.Clone(whole)
		p := shell.Quote(other[:n])
		clear(other)
		if p != q {
			t.Fatalf("%d: %s, %s", n, p, q)
		}
	}
}

func scripts() []string {
	all := slices.Clone(edges()[:len(edges())-1])
	for seed := range int64(20) {
		s, _ := newLot(5000 + seed).script(120)
		all = append(all, s)
	}
	return append(all, lines(small, "create 1 a", "under", "fair 1 9", "result 1", "audit"), lines("under", "result 1", "history"))
}

// Nothing is left of one Run in the next one, whichever comes between; two Runs of one script are alike.
func TestP2005Alike(t *testing.T) {
	t.Parallel()
	all := scripts()
	var first []string
	for _, s := range all {
		first = append(first, shell.Run(s))
	}
	for i, s := range slices.Backward(all) {
		if got := shell.Run(s); got != first[i] {
			t.Errorf("script %d: %s", i, unlike(s, got, first[i]))
		}
	}
	talk(t, "lookup 1 a => none", small+" => ok", "lookup 1 a => ok")
	talk(t, "lookup 1 a => none", "under => none", "result 1 => none", "history => none", small+" => ok", "under => ok", "history => ok 0", "result 1 => none", "create 1 b => ok", "under => ok c1.1>s1 c1.2>s3 c1.3>s2")
	if _, err := shell.Words(`"a`); err != api.ErrWord {
		t.Error(err)
	}
	talk(t, "under => none")
}

// Runs that go on at the same time do not hear of each other; so too Words and Quote.
func TestP2005AtOnce(t *testing.T) {
	t.Parallel()
	all := scripts()[15:]
	first := make([]string, len(all))
	for i, s := range all {
		first[i] = shell.Run(s)
	}
	var done sync.WaitGroup
	for i, s := range all {
		for range 2 {
			done.Add(1)
			go func() {
				defer done.Done()
				if got := shell.Run(s); got != first[i] {
					t.Errorf("script %d: %s", i, unlike(s, got, first[i]))
				}
				mustBeWords(t, fmt.Sprintf(`"\x41%d" b%d`, i, i), fmt.Sprintf("A%d", i), fmt.Sprintf("b%d", i))
			}()
		}
	}
	done.Wait()
}

// P3: what is asked twice in one script is answered alike, if nothing has happened between.
func TestP3Same(t *testing.T) {
	t.Parallel()
	for seed := range int64(40) {
		r := newLot(6000 + seed)
		script, _ := r.script(60)
		l := strings.Split(strings.TrimSuffix(script, "\n"), "\n")
		ask := []string{"under", "result 1", "result 2", "result 3", "history", "witness", "legal", "audit", "group 1.1 0", "bucket a", "held 1 1.1 0", "trimmed 1 0", "frob", "deliver c9 1", "fair 9 9", "fair 1 -1", "world 9 9", "world 9 9 9 9 9 9 9", "create 9 a", "start 99"}
		a := run(t, slices.Concat(l, ask, ask)...)
		n := len(l)
		if first, second := a[n:n+len(ask)], a[n+len(ask):]; !slices.Equal(first, second) {
			t.Fatalf("seed %d: %q, %q", seed, first, second)
		}
	}
}

// When a Run answers, its goroutines have ended. (Those of other tests run at the same time: so it is not parallel.)
func TestP3GoroutinesEnd(t *testing.T) {
	before := runtime.NumGoroutine()
	for range 20 {
		shell.Run(lines(small, "create 1 a", "fair 1 9", "audit", "all", "audit"))
	}
	for range 50 {
		if runtime.NumGoroutine() <= before {
			return
		}
		time.Sleep(10 * time.Millisecond)
	}
	t.Error("goroutines:", before, runtime.NumGoroutine())
}
