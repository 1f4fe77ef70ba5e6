package shell_test

import (
	"fmt"
	"slices"
	"strings"
	"testing"

	"cairn/shell"
)

// sample is a line of a form whose words read.
func sample(name, form string) []string {
	l := []string{name}
	for _, n := range strings.Fields(form) {
		switch n {
		case "C", "S", "N":
			l = append(l, "1")
		case "A":
			l = append(l, "c1")
		case "F":
			l = append(l, "1.1")
		case "T":
			l = append(l, "t")
		case "..":
		default:
			l = append(l, n)
		}
	}
	return l
}

// eachForm calls with each command and each way to write what is behind it: the form, and a line of it.
func eachForm(do func(name, form string, line []string)) {
	for _, name := range names() {
		for _, form := range forms()[name] {
			do(name, form, sample(name, form))
		}
	}
}

// mustBeWord: with a world and without one the line is none of a command's.
func mustBeWord(t testing.TB, line ...string) {
	t.Helper()
	s := strings.Join(line, " ")
	talk(t, s+" => word", tiny+" => ok", s+" => word", "history => ok 0", "under => ok")
}

// Without a world all that reads is none, but world; with one nothing that reads is a word.
func TestP2003None(t *testing.T) {
	t.Parallel()
	if n := len(names()); n != 36 {
		t.Fatal("commands:", n)
	}
	eachForm(func(name, form string, line []string) {
		s := strings.Join(line, " ")
		if name == "world" {
			return
		}
		talk(t, s+" => none", "world 1 1 1 1 1 1 => word", s+" => none", "world 1 1 1 1 1 1 1 => config", s+" => none")
		if a := last(t, tiny, s); a == "word" || a == "none" && name != "result" || a == "" {
			t.Errorf("%s: %s", s, a)
		}
	})
	// what a world would refuse
	talk(t, "fair 1 4097 => none", "fair 1 -1 => none", "fair -9 4097 => none", "trim -1 -1 -1 => none", "create 99 \"\" => none", "group 0.0 0 => none", `write 1 0.0 -1 "" => none`, "deliver s999 -1 => none", "mend 1 1 bucket -1 => none", "held 999 0.0 -1 => none", "under # => none")
}

// One word too few, and one too many.
func TestP2003TooFewAndTooMany(t *testing.T) {
	t.Parallel()
	eachForm(func(name, form string, line []string) {
		for n := 1; n < len(line); n++ {
			mustBeWord(t, line[:n]...)
		}
		for _, more := range []string{"1", "t", "1.1", "c1", `""`} {
			if name != "world" || more != "1" {
				mustBeWord(t, append(slices.Clone(line), more)...)
			}
		}
	})
	talk(t, "world 0 1 1 1 1 512 1 => ok", "world 0 1 1 1 1 512 1 2 3 4 5 6 7 8 => ok", "world 0 1 1 1 1 512 => word", "world => word")
}

// Each word in turn is one that does not read there.
func TestP2003WrongWords(t *testing.T) {
	t.Parallel()
	never := []string{`""`, "-", "x", "1x", "x1", "0x1", "1_0", "1,0", "1e1", `"1 "`, `" 1"`, "1\xff", "\u0661", `"1\n"`, "1\r", "--1", "+1", "-+1", "1-", "s", "c"}
	wrong := map[string][]string{
		"N": append(slices.Clone(never), "-0", "-000", "-000000000000000", "1234567890123456", "0000000000000001", "-1234567890123456", "99999999999999999999", "1.1", "s1", "c1", "1."),
		"A": append(slices.Clone(never), "1", "s1234", "s0001", "s-1", "s+1", "-s1", "S1", "C1", "x1", "ss1", "sc1", "cs1", "s1.1", "1.1", "s1x", "s 1", "\u017f1", `"s1 "`),
		"F": append(slices.Clone(never), "1", "1.", ".1", ".", "1..1", "1.1.1", "-1.1", "1.-1", "-0.0", "0.-0", "+1.1", "1.+1", "1,1", "1.1x", "1.x", "x.1", "1234567890123456.1", "1.1234567890123456", "c1.1", "1.c1", `"1. 1"`, "1 .1"),
	}
	wrong["C"], wrong["S"] = wrong["N"], wrong["N"]
	for _, w := range []string{"block", "bucket"} {
		wrong[w] = []string{"Block", "BUCKET", "blocks", "buckets", "b", "0", `""`, "instance", `"block "`}
	}
	n := 0
	eachForm(func(name, form string, line []string) {
		for i, need := range strings.Fields(form) {
			for _, w := range wrong[need] {
				l := slices.Clone(line)
				l[1+i] = w
				if l := strings.Join(l, " "); last(t, l) != "word" || last(t, tiny, l) != "word" {
					t.Errorf("%s: it reads", l)
				}
				n++
			}
		}
	})
	mustBeWord(t, "mend 1 2 bucket 1.1 0")
	mustBeWord(t, "mend 1 2 block 0")
	mustBeWord(t, "mend 1 2 block 0 0")
	mustBeWord(t, "mend 1 2 bucket 1.1")
	mustBeWord(t, "mend block 1 2 1.1 0")
	for i := range 9 {
		l := strings.Fields("world 0 1 1 1 1 512 1 2 3")
		l[1+i] = "x"
		mustBeWord(t, l...)
	}
	if n < 1000 {
		t.Error("too few:", n)
	}
}

// What reads in the place of each number, address and file, at its edges.
func TestP2003Reads(t *testing.T) {
	t.Parallel()
	reads := map[string][]string{
		"N": {"0", "00", "007", "-1", "-007", "1", "123456789012345", "-123456789012345", "999999999999999", "-999999999999999", "000000000000000", "000000000000001", `"1"`, `"\x31"`, `"\x2d1"`},
		"A": {"s0", "c0", "s1", "c001", "s007", "s999", "c255", `"s1"`},
		"F": {"0.0", "1.1", "0.1", "1.0", "007.0001", "123456789012345.999999999999999", `"1.1"`},
		"T": {"x", `""`, `"#"`, "a#b", "\xff", `"\x00"`, "a/b", `"a b"`, "-", `\`, "\r"},
	}
	reads["C"], reads["S"] = reads["N"], reads["N"]
	eachForm(func(name, form string, line []string) {
		for i, need := range strings.Fields(form) {
			for _, w := range reads[need] {
				l := slices.Clone(line)
				l[1+i] = w
				if s := strings.Join(l, " "); name != "world" && last(t, s) != "none" || last(t, tiny, s) == "word" {
					t.Errorf("%s: it does not read", s)
				}
			}
		}
	})
}

// What numbers are read as is to be seen.
func TestP2003NumbersAreRight(t *testing.T) {
	t.Parallel()
	talk(t,
		"world 00 01 001 0002 2 0512 07 => ok", "create 007 a => ok", "create 00000000000008 a => ok", "create -7 a => addr", "create 9 a => addr", "create 0 a => addr",
		"under => ok c7.1>s7 c8.1>s7", "deliver c007 0001 => ok", "lose c08 1 => ok", "under => ok s7.1>c7", "deliver s7 00000000000001 => ok",
		"fair 7 04 => ok 1", "result 07 => ok ok \"a\" 7.1 0 @1",
		"setsize 7 a 007.001 010 => ok", "fair 7 9 => ok 2", "result 7 => ok ok \"a\" 7.1 10 @2", // not octal
		"group 123456789012345.1 0 => key", "group 1.1099511627776 0 => ok 7", "group 1.1099511627777 0 => key", "group 255.1 1048575 => ok 7", "group 256.1 0 => key", "group 1.1 1048576 => key", "group 1.1 -1 => key", "group 0.0 0 => key",
		"truncate 7 a 999999999999999 => size", "truncate 7 a 2097152 => ok", "fair 7 9 => ok 4", "result 7 => ok ok \"a\" 7.1 2097152",
	)
}

func TestP2003NoCommand(t *testing.T) {
	t.Parallel()
	for _, name := range names() {
		for _, s := range []string{strings.ToUpper(name), strings.ToUpper(name[:1]) + name[1:], name + "s", name[:len(name)-1], "x" + name, `"` + name + ` "`, name + "#", name + "\r"} {
			if a := run(t, s, s+" 1", s+" 1 t", tiny, s, s+" 1", s+" 1 t"); !slices.Equal(a, []string{"word", "word", "word", "ok", "word", "word", "word"}) {
				t.Errorf("%s: %v", s, a)
			}
		}
	}
	for _, s := range []string{`""`, `"" 1`, "frob", "0", "junk 1 x", "tear 1 0 0", "help", "quit", "\xff", "up 1", "pending 1", "image 1", "instance 1 0 1", "newest 1", "right", "alone", "-", "ok"} {
		mustBeWord(t, s)
	}
	for b := range 256 {
		if s := string([]byte{byte(b)}); !strings.Contains(" \t\n#", s) {
			mustBeWord(t, s)
		}
	}
}

func TestP2003Lines(t *testing.T) {
	t.Parallel()
	for _, x := range []struct{ script, want string }{
		{"", ""}, {"\n", "\n"}, {"\n\n", "\n\n"}, {" ", "\n"}, {" \t\n", "\n"}, {"# x", "\n"}, {"# x\n", "\n"}, {"frob", "word\n"}, {"frob\n", "word\n"}, {"frob\n\n", "word\n\n"},
		{"\nfrob", "\nword\n"}, {"under\nfrob", "none\nword\n"}, {"under\n\n#\n  \t # a\nunder", "none\n\n\n\nnone\n"}, {"under\r\nunder\r\n", "word\nword\n"},
		{"under \r", "word\n"}, {"\r", "word\n"}, {"\r\n", "word\n"}, {"\x00", "word\n"}, {"\"\nunder\"", "word\nword\n"}, {"under \"\n", "word\n"}, {"under #\nunder", "none\nnone\n"}, {"\"under\n\"", "word\nword\n"},
		{"\xff\nunder", "word\nnone\n"}, {"under # \xff\"\n\"under\"", "none\nnone\n"}, {"\v\f", "word\n"}, {"under\u00a0", "word\n"},
	} {
		mustRun(t, x.script, x.want)
	}
}

// A quoted line feed is no line's end, and is not one in an answer.
func TestP2003LineFeeds(t *testing.T) {
	t.Parallel()
	talk(t, small+" => ok", `create 1 "\n" => ok`, "fair 1 9 => ok 2", `result 1 => ok ok "\n" 1.1 0 @1`, `create 1 "\x0a" => ok`, "fair 1 9 => ok 2", `result 1 => ok exists`,
		`write 1 1.1 0 "\n\x0a\x0d" => ok`, "fair 1 9 => ok 2", `held 1 1.1 0 => ok 1.1 "\n\n\x0d\x00"`)
}

func mustRun(t testing.TB, script, want string) {
	t.Helper()
	if got := shell.Run(script); got != want {
		t.Errorf("%q: %q, not %q", cut(script), cut(got), cut(want))
	}
}

// Scripts that are as long as they may be, and longer.
func TestP2003Long(t *testing.T) {
	t.Parallel()
	for n, want := range map[int]string{65535: "word\n", 65536: "word\n", 65537: "long\n", 65538: "long\n", 1 << 20: "long\n"} {
		mustRun(t, strings.Repeat("y", n), want)
		mustRun(t, strings.Repeat("y", n-1)+"\n", want)
		mustRun(t, "under"+strings.Repeat(" ", n-5), strings.Replace(want, "word", "none", 1))
		mustRun(t, "#"+strings.Repeat("\"", n-1), strings.Replace(want, "word", "", 1))
	}
	for n := range 5 {
		lines := strings.Repeat("under\n", 510+n)
		want := strings.Repeat("none\n", 510+n)
		if n > 2 {
			want = "long\n"
		}
		mustRun(t, lines, want)
		mustRun(t, strings.TrimSuffix(lines, "\n"), want)
		if n < 2 {
			mustRun(t, lines+"#", want+"\n")
		} else {
			mustRun(t, lines+"#", "long\n")
			mustRun(t, lines+"\n", "long\n")
		}
	}
	mustRun(t, strings.Repeat("\n", 65536), "long\n")
	mustRun(t, strings.Repeat("\n", 65537), "long\n")
	// nothing of it is done
	mustRun(t, small+"\n"+strings.Repeat(" ", 65536), "long\n")
}

// Each of 512 lines with as many bytes as there may be.
func TestP2003AsLongAsMayBe(t *testing.T) {
	t.Parallel()
	script, want := small+strings.Repeat(" ", 127-len(small))+"\n", "ok\n"
	for n := range 511 {
		script += fmt.Sprintf("%-127s\n", fmt.Sprintf("bucket %d #", n))
		want += last(t, small, fmt.Sprintf("bucket %d", n)) + "\n"
	}
	if len(script) != 65536 {
		t.Fatal(len(script))
	}
	mustRun(t, script, want)
	mustRun(t, script+" ", "long\n")
}
