package shell_test

import (
	"fmt"
	"regexp"
	"strings"
	"testing"

	"cairn/api"
	"cairn/shell"
)

// answerForm is all that an answer may be.
var answerForm = regexp.MustCompile(`^(|ok( .*)?|[a-z]+)$`)

// mustBeAnswered: whatever the script, each line has one answer, and that is one.
func mustBeAnswered(t testing.TB, script string) {
	t.Helper()
	told := shell.Run(script)
	n := strings.Count(script, "\n")
	if script != "" && !strings.HasSuffix(script, "\n") {
		n++
	}
	if len(script) > api.MaxScript || n > api.MaxLines {
		if told != "long\n" {
			t.Fatalf("%q: %q", cut(script), cut(told))
		}
		return
	}
	l := answers(t, told)
	if len(l) != n {
		t.Fatalf("%q: %d lines, %d answers", cut(script), n, len(l))
	}
	for i, a := range l {
		if !answerForm.MatchString(a) || len(a) > api.MaxBytes {
			t.Fatalf("%q: answer %d: %q", cut(script), i, cut(a))
		}
		for _, b := range []byte(a) {
			if b < 32 || b > 126 {
				t.Fatalf("%q: answer %d: %q", cut(script), i, cut(a))
			}
		}
	}
}

func TestP1AnyBytes(t *testing.T) {
	t.Parallel()
	r := newLot(1)
	for range 3000 {
		mustBeAnswered(t, string(r.bytes(r.Intn(300))))
		mustBeAnswered(t, r.text(r.Intn(300)))
		mustBeAnswered(t, tiny+"\n"+r.text(r.Intn(100)))
	}
	for _, n := range []int{65535, 65536, 65537, 200000} {
		mustBeAnswered(t, string(r.bytes(n)))
		mustBeAnswered(t, strings.ReplaceAll(string(r.bytes(n)), "\n", "x"))
	}
}

// Commands with any words behind them, and with any bytes in the midst of what would read.
func TestP1AnyWords(t *testing.T) {
	t.Parallel()
	r := newLot(2)
	all := append(names(), "block", "bucket", "")
	some := []string{"0", "1", "2", "3", "-1", "9", "999999999999999", "-999999999999999", "1.1", "0.0", "255.1099511627776", "999999999999999.999999999999999", "c1", "s1", "s999", "c0", "a", `""`, `"\xff"`, "block", "bucket", "4096", "1048575", "#", `"`}
	for range 600 {
		l := []string{tiny}
		for range 40 {
			line := oneOf(r, all...)
			for range r.Intn(7) {
				line += " " + oneOf(r, some...)
			}
			l = append(l, line)
		}
		mustBeAnswered(t, lines(l...))
	}
	for seed := range int64(150) {
		r := newLot(7000 + seed)
		s, _ := r.script(80)
		b := []byte(s)
		for range r.Intn(60) {
			b[r.Intn(len(b))] = oneOf(r, byte(r.Intn(256)), ' ', '\n', '"', '1')
		}
		mustBeAnswered(t, string(b))
	}
}

// The numbers at all ends, in the place of each number of each command.
func TestP1AnyNumbers(t *testing.T) {
	t.Parallel()
	ends := []string{"0", "-1", "1", "255", "256", "4096", "65536", "1048576", "1099511627776", "1099511627777", "999999999999999", "-999999999999999"}
	eachForm(func(name, form string, line []string) {
		if name == "world" {
			return
		}
		for i, need := range strings.Fields(form) {
			l := []string{tiny, "create 1 a", "fair 1 9", "all"}
			for _, n := range ends {
				words := strings.Fields(strings.Join(line, " "))
				switch need {
				case "C", "S", "N":
					words[1+i] = n
				case "F":
					words[1+i] = "1." + strings.TrimPrefix(n, "-")
				default:
					continue
				}
				l = append(l, strings.Join(words, " "), "all")
			}
			mustBeAnswered(t, lines(append(l, "legal", "audit", "under")...))
		}
	})
	for i := range 7 {
		for _, n := range ends {
			l := strings.Fields("world 1 1 1 1 1 64 1 2 3")
			l[1+i] = n
			mustBeAnswered(t, lines(strings.Join(l, " "), "create 1 a", "fair 1 9", "write 1 1.1 0 a", "fair 1 9", "result 1", "legal"))
		}
	}
}

// The greatest world that there may be.
func TestP1GreatestWorld(t *testing.T) {
	t.Parallel()
	ids := ""
	for id := 255; id > 191; id-- {
		ids += fmt.Sprint(" ", id)
	}
	talk(t, "world 3 64 256 4096 256 1000"+ids+" => ok", "create 8 "+strings.Repeat("n", 255)+" => ok", "fair 8 9 => ok 2", "writeat 8 "+strings.Repeat("n", 255)+" 4294967290 abcdef => ok", "fair 8 99 => ok 7",
		"result 8 => ok ok \""+strings.Repeat("n", 255)+"\" 8.1 4294967296 6", "writeat 8 "+strings.Repeat("n", 255)+" 4294967290 abcdefg => size", "readat 8 "+strings.Repeat("n", 255)+" 4294967292 4 => ok", "fair 8 99 => ok 3",
		"result 8 => ok ok \""+strings.Repeat("n", 255)+"\" 8.1 4294967296 \"cdef\"", "legal => ok 7", "audit => ok")
}
