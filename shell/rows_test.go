package shell_test

import (
	"fmt"
	"strings"
	"sync"
	"testing"

	"cairn/api"
	"cairn/shell"
)

// Drawn scripts are answered as the plain shell answers them; each command has all its answers among them.
func TestP2003Rows(t *testing.T) {
	t.Parallel()
	const parts = 8
	var counted sync.Mutex
	seen := map[string]int{}
	t.Run("drawn", func(t *testing.T) {
		for part := range int64(parts) {
			t.Run(fmt.Sprint(part), func(t *testing.T) {
				t.Parallel()
				for seed := part; seed < 800; seed += parts {
					r := newLot(seed)
					script, want := r.script(20 + r.Intn(180))
					told := shell.Run(script)
					if all := strings.Join(want, "\n") + "\n"; told != all {
						t.Fatalf("seed %d: %s", seed, unlike(script, told, all))
					}
					counted.Lock()
					count(seen, strings.Split(script, "\n"), want)
					counted.Unlock()
				}
			})
		}
	})
	for _, name := range names() {
		for _, kind := range kinds(name) {
			if seen[name+": "+kind] < 3 {
				t.Errorf("too few to tell: %s: %s: %d", name, kind, seen[name+": "+kind])
			}
		}
	}
}

// count counts the answers of each command by their first words.
func count(seen map[string]int, lines, answers []string) {
	for i, a := range answers {
		f := strings.Fields(lines[i])
		if len(f) == 0 || forms()[f[0]] == nil {
			continue
		}
		word, _, more := strings.Cut(a, " ")
		if more {
			word += " .."
		}
		seen[f[0]+": "+word]++
	}
}

// kinds are the answers that a command must have had.
func kinds(name string) []string {
	l := []string{"word", "none"}
	switch name {
	case "world":
		return []string{"word", "ok", "config", "sectors"}
	case "create", "remove", "lookup":
		l = append(l, "ok", "busy", "addr", "name", "fallen")
	case "list":
		l = append(l, "ok", "busy", "addr", "bucket")
	case "setsize", "grow", "replace":
		l = append(l, "ok", "busy", "addr", "name", "arg", "size")
	case "read":
		l = append(l, "ok", "busy", "addr", "arg", "index")
	case "write":
		l = append(l, "ok", "busy", "addr", "arg", "index", "block")
	case "readat", "writeat", "truncate":
		l = append(l, "ok", "busy", "addr", "name", "size")
	case "copy":
		l = append(l, "ok", "busy", "addr", "name")
	case "deliver", "lose", "double":
		l = append(l, "ok", "packet", "event")
	case "tick", "stop", "start":
		l = append(l, "ok", "addr")
	case "fall", "quota":
		l = append(l, "ok", "addr", "event")
	case "trim":
		l = append(l, "ok", "addr", "event", "bucket")
	case "mend":
		l = append(l, "ok", "addr", "key")
	case "fair":
		l = append(l, "ok ..", "arg")
	case "result":
		l = append(l, "ok ..", "pending")
	case "all", "history", "legal", "bucket", "held", "trimmed":
		l = append(l, "ok ..")
	case "under", "witness":
		l = append(l, "ok", "ok ..")
	case "audit":
		l = append(l, "ok")
	case "group":
		l = append(l, "ok ..", "key")
	}
	return l
}

// unlike tells the first line at which two answers differ.
func unlike(script, a, b string) string {
	lines, l, m := strings.Split(script, "\n"), strings.Split(a, "\n"), strings.Split(b, "\n")
	for i := range min(len(l), len(m)) {
		if l[i] != m[i] {
			line := ""
			if i < len(lines) {
				line = lines[i]
			}
			return cut(line) + ": " + cut(l[i]) + ", not " + cut(m[i])
		}
	}
	return "as many lines, but no more"
}

// Each rule, broken on purpose, is found out by drawn scripts or by those that stand at an edge.
func TestP2003WrongRulesAreFoundOut(t *testing.T) {
	t.Parallel()
	var scripts, told []string
	scripts = append(scripts, edges()...)
	for seed := range int64(250) {
		r := newLot(1000 + seed)
		s, _ := r.script(20 + r.Intn(180))
		scripts = append(scripts, s)
	}
	for _, s := range scripts {
		told = append(told, shell.Run(s))
	}
	for _, wrong := range wrongRules() {
		t.Run(wrong, func(t *testing.T) {
			t.Parallel()
			heard := false
			for i, s := range scripts {
				p := &plain{wrong: wrong}
				if p.run(s) != told[i] {
					return
				}
				heard = heard || p.heard
			}
			t.Error("it is not found out; heard:", heard)
		})
	}
}

// The plain shell that keeps all rules is not found out at the edges either.
func TestP2003Edges(t *testing.T) {
	t.Parallel()
	for i, s := range edges() {
		if got, want := shell.Run(s), (&plain{}).run(s); got != want {
			t.Errorf("script %d: %s", i, unlike(s, got, want))
		}
	}
}

func lines(l ...string) string { return strings.Join(l, "\n") + "\n" }

// full answers with just as many bytes as there may be, if its name has 11 bytes.
func full(name string) string {
	return lines(
		"world 0 1 1 4096 2 4096 7", "create 1 "+name, "fair 1 9", "setsize 1 "+name+" 1.1 32760", "fair 1 9", "readat 1 "+name+" 0 32760", "fair 1 99", "result 1", "lookup 1 "+name, "fair 1 9", "result 1",
	)
}

// busy has more under way than all delivers.
func busyScript() string {
	return lines("world 0 1 1 1 2 4096 7", "create 1 a", "all", "setsize 1 a 1.1 3000", "all", "readat 1 a 0 3000", "all", "result 1", "under", "all", "result 1", "all", "under", "witness")
}

// edges are scripts where a bound is, or what is seldom drawn.
func edges() []string {
	blank := strings.Repeat(" ", api.MaxScript-8)
	return []string{
		"", "\n", "#", "frob", "frob\n", "\n\n", "a\n\nb", "under\r\nunder\r\n",
		strings.Repeat("\n", 511), strings.Repeat("\n", 512), strings.Repeat("\n", 513), strings.Repeat("\n", 511) + "x", strings.Repeat("\n", 512) + "x",
		blank + "under #", blank + "under #\n", blank + "under # ", blank + "under # \n",
		full(strings.Repeat("n", 10)), full(strings.Repeat("n", 11)), full(strings.Repeat("n", 12)),
		busyScript(),
		lines("world 0 1 1 1 2 512 7", "fair 1 -1", "fair 1 0", "fair 1 4096", "fair 1 4097", "create 1 a", "fair 1 0", "fair 1 4096", "fair 9 4096", "fair 9 4097"),
		lines("trim 000000000000001 0 0", "trim 1234567890123456 0 0", "trim -123456789012345 0 0", "trim 123456789012345 0 0", "trim -0 0 0", "trim -000 0 0", "trim -007 0 0", "trim 007 0 0", "trim +1 0 0", "trim \"\" 0 0"),
		lines("lose s1 1", "lose s123 1", "lose s1234 1", "lose s-1 1", "lose s 1", "lose c 1", "lose S1 1", "lose C1 1", "lose 1 1", "lose x1 1", "lose sc1 1", "lose cs1 1", "lose ss1 1", "lose \"\" 1"),
		lines("group 0.0 0", "group 1.1 0", "group 01.001 0", "group 1 0", "group 1.1.1 0", "group -1.1 0", "group 1.-1 0", "group .1 0", "group 1. 0", "group 1,1 0", "group 123456789012345.123456789012345 0", "group 1.1234567890123456 0"),
		lines(small, "held 1 1.1 0", "held 4 1.1 0", "trimmed 4 0", "result 9", "fair 9 1", "result 0", "bucket \"\"", "bucket a/b", "bucket \"a#\\x00\"", "UNDER", "Under", "under x", "mend 1 2 frob 0", "mend 1 2 frob 1.1 0"),
		lines("create 8 a", "world 0 1 1 1 2 512 7", "create 8 a", "create 9 a", "create 7 a", "fair 8 9", "world 0 1 1 1 2 512 7 7", "result 8", "world 0 1 1 1 2 0 7", "result 8", "world 0 1 1 1 2 512 9", "result 8"),
		lines("world 0 1 1 4 2 512 7", "read 1 1.1 0", "all", "result 1", `write 1 1.1 0 "\r"`, `write 1 1.1 0 "\x4"`, `write 1 1.1 0 "\x4A"`, `write 1 1.1 0 "\xe9\x80"`, "all", "held 7 1.1 0", "write 1 1.1 0 abcd", "all", "held 7 1.1 0", "write 1 1.1 0 abcde", `write 1 1.1 0 ""`, "all", "held 7 1.1 0", `write 1 1.1 0 "\n\t\"\\"`, "all", "held 7 1.1 0"),
		lines("world 0 1 2 4 3 512 7", "create 1 a", "all", "result 1", "create 1 b", "all", "create 1 c", "all", "list 2 0", "all", "result 2", "list 3 1", "all", "result 3", "create 2 a", "all", "result 2", "remove 2 zz", "all", "result 2"),
		lines("world 0 1 1 4 2 512 7", "create 1 a", "all", `writeat 1 a 0 ""`, "all", "result 1", "writeat 1 a 2 xyzuvw", "all", "result 1", "readat 1 a 8 9", "all", "result 1", "readat 1 a 0 2", "all", "result 1", "readat 1 a 3 2", "all", "result 1", "copy 1 a b", "all", "result 1", "truncate 1 a 1", "all", "result 1", "lookup 1 a", "all", "result 1", "lookup 1 b", "all", "result 1"),
		lines("world 1 1 1 1 2 4096 1 2 3", "create 1 a", "deliver c1 1", "lose c1 2", "double c1 3", "under", "tick 1", "under", "stop 1", "under", "result 1", "tick 1", "fair 1 3", "result 1", "create 1 b"),
		"world 0 1 1 1 2 512 7\n\"cre\nate 1 a\"\n\"a\nb\"\n# a\nunder\n#\"\nunder \"\n\"under",
	}
}

// wrongRules are those of the plain shell that may be broken.
func wrongRules() []string {
	return []string{
		// Words.
		"tabs part no words", "a carriage return parts words", "quoted words need no blanks", "a quote inside a word stands for itself", "# inside a word begins a remark",
		"there are no remarks", "upper case digits are read", `\r may stand`, `\x may have one digit`, "all may stand behind a backslash", "a line's end ends a quote",
		"remarks are looked at", "a remark may stand right behind a quoted word", "empty words are passed over", "a quoted # begins a remark",
		"quotes stay", `\n stands for n`, `\t stands for t`, `\x is a rune`, "line feeds are quoted by digits", "tabs are quoted by digits", "digits in upper case",
		// Lines.
		"a carriage return goes with its line feed", "behind the last line feed stands a line", "a line without a line feed is none", "65535 bytes are the most", "65537 bytes may be",
		"511 lines are the most", "513 lines may be", "131071 bytes are the most", "131073 bytes may be", "a long answer is cut", "a long answer is empty", "an empty line is not answered", "an empty line is ok",
		// What reads.
		"16 digits read", "14 digits are the most", "the sign counts as a digit", "-0 reads", "007 does not read", "nothing is below 0", "+ is a sign", "no digits are 0",
		"addresses of four digits read", "addresses with a sign read", "addresses of three digits do not read", "addresses in upper case read", "a number is a server's address", "an address needs no digit",
		"files with a sign read", "0.0 does not read", "files with zeros ahead do not read", "a number is a file", "files of three numbers read",
		"words beyond are passed over", "any word stands for block and bucket", "commands in upper case read", "what is no command is nothing",
		"without a world words are not looked at", "group and bucket need no world", "without a world nothing is under way", "errors are told by their numbers",
		// What is done.
		"Room comes ahead of Block", "Buckets come ahead of Points", "there are nine clients", "there are seven clients", "a world that is refused takes the elder one away", "the first world stays",
		"setsize grows", "grow sets the size", "remove looks up", "lookup removes", "replace has its new file first", "readat has N first", "writeat fills a block up", "copy has its new name first",
		"write fills nothing up", "write fills up with blanks", "write fills up ahead", "write leaves off what is more",
		"deliver loses", "lose delivers", "double loses", "tick stops", "stop ticks", "fall tears", "fall counts one more", "quota is of bytes", "trim has its bucket last", "mend mends the other one", "mend of a bucket is of its first instance",
		"fair of 0 is arg", "fair of -1 is ok", "fair of 4096 is arg", "fair of 4097 is ok", "fair of nobody is an address that is none", "fair tells no number below 0",
		"4095 are all", "4097 are all", "all is what is under way now", "all begins with the last one", "all counts one more",
		// What is told.
		"under goes by names", "under tells a name once", "under tells to whom first", "pending is not looked at", "result of nobody is an address that is none", "results are everybody's",
		"parts are told", "ends are not told", "ends alone are told", "result has one ok", "the first result is told",
		"history counts operations", "witness counts from 1 on", "legal counts lines", "group is of a bucket", "group is sorted", "bucket is of names alone",
		"held has the client first", "held of nobody is an address that is none", "held of nothing is ok alone", "trimmed of nobody is none", "trimmed counts entries",
		"errors have more behind them", "names are not quoted", "files have their op first", "a size of 0 is not told", "no entry is told", "one of a list is told", "bytes that are 0 are not told", "no bytes are told",
		"0 is told", "no stamp is told", "stamps have their client first", "no instance is told", "instances have no sign", "the instance comes first", "the stamp comes ahead of the bytes",
	}
}

// wrongWords are those that only lines with line feeds show.
func wrongWords() []string {
	return []string{"a line feed parts words", "a line feed may not be quoted", "a remark ends at a line feed"}
}

func TestP2001WrongRulesAreFoundOut(t *testing.T) {
	t.Parallel()
	for _, wrong := range wrongWords() {
		p, found := &plain{wrong: wrong}, false
		for _, line := range []string{"a\nb", "\"a\nb\"", "#\na", "#\n\"", "a\n"} {
			l, err := shell.Words(line)
			m, ok := p.words(line)
			found = found || ok != (err == api.OK) || strings.Join(l, "|") != strings.Join(m, "|")
		}
		if !found {
			t.Errorf("%s: it is not found out", wrong)
		}
	}
}
