package shell_test

import (
	"fmt"
	"slices"
	"strings"
	"testing"

	"cairn/api"
	"cairn/shell"
)

func mustBeWords(t testing.TB, line string, want ...string) {
	t.Helper()
	if l, err := shell.Words(line); err != api.OK || !slices.Equal(l, want) {
		t.Errorf("Words(%q): %q, %v, not %q", cut(line), l, err, want)
	}
}

func mustBeNone(t testing.TB, line string) {
	t.Helper()
	if l, err := shell.Words(line); err != api.ErrWord || len(l) > 0 {
		t.Errorf("Words(%q): %q, %v", cut(line), l, err)
	}
}

func TestP2001Plain(t *testing.T) {
	t.Parallel()
	mustBeWords(t, "")
	mustBeWords(t, " ")
	mustBeWords(t, "\t \t  ")
	mustBeWords(t, "a", "a")
	mustBeWords(t, "  ab\tc  ", "ab", "c")
	mustBeWords(t, `\`, `\`)
	mustBeWords(t, `a\n \x41 \`, `a\n`, `\x41`, `\`)
	mustBeWords(t, "a\r b\r", "a\r", "b\r")
	mustBeWords(t, "a\nb\n c", "a\nb\n", "c")
	mustBeWords(t, "a\vb\fc\u00a0d\u2003e\u0085f", "a\vb\fc\u00a0d\u2003e\u0085f") // no other blanks part words
	mustBeWords(t, "\x00 \x7f \xff \xc3 \xc3\xa9 \xe2\x82", "\x00", "\x7f", "\xff", "\xc3", "\u00e9", "\xe2\x82")
	mustBeWords(t, "\xff\xfe\t\x80 \xf0\x9f\x98", "\xff\xfe", "\x80", "\xf0\x9f\x98")
	mustBeWords(t, "\ufffd \U0001f600", "\ufffd", "\U0001f600")
	mustBeWords(t, "'a b' `c", "'a", "b'", "`c")
}

func TestP2001Quoted(t *testing.T) {
	t.Parallel()
	mustBeWords(t, `""`, "")
	mustBeWords(t, `"" "" a ""`, "", "", "a", "")
	mustBeWords(t, `"a b"	c "d"`, "a b", "c", "d")
	mustBeWords(t, "\"a\tb\"", "a\tb")
	mustBeWords(t, `"\"\\\n\t\x00\x7f\xff\x0a"`, "\"\\\n\t\x00\x7f\xff\n")
	mustBeWords(t, `"\\n"`, `\n`)
	mustBeWords(t, `"\\"`, `\`)
	mustBeWords(t, `"\\\""`, `\"`)
	mustBeWords(t, `"\x41B\x430"`, "ABC0")
	mustBeWords(t, `"x41 nt"`, "x41 nt")
	mustBeWords(t, "\"a\nb\r\"", "a\nb\r")
	mustBeWords(t, "\"\xff\xc3\\t\xe2\x82\"", "\xff\xc3\t\xe2\x82")
	mustBeWords(t, "\"\ufffd\\x80\U0001f600\"", "\ufffd\x80\U0001f600")
	mustBeWords(t, "\"\x00\x7f\"", "\x00\x7f")
	mustBeWords(t, `"\xc3\xa9"`, "\u00e9")
}

// Words are alike whether they are quoted or not.
func TestP2001QuotedAndPlain(t *testing.T) {
	t.Parallel()
	mustBeWords(t, `"create" "1" "a"`, "create", "1", "a")
	talk(t, `"world" "1" 4 2 4 8 "4096" 1 "\x32" 3 => ok`, `"create" "1" a => ok`, `cre"ate" 1 a => word`, `"fair" "1" "9" => ok 2`, `"" => word`, `create 2 "" => name`)
}

func TestP2001Remarks(t *testing.T) {
	t.Parallel()
	mustBeWords(t, "#")
	mustBeWords(t, " \t# a b")
	mustBeWords(t, "a # b", "a")
	mustBeWords(t, "a\t#b", "a")
	mustBeWords(t, "a#b c# d", "a#b", "c#", "d")
	mustBeWords(t, `"#" "#a" b`, "#", "#a", "b")
	mustBeWords(t, `"a" #x`, "a")
	// what would be wrong elsewhere
	for _, remark := range []string{`"`, `"a`, `"\q"`, `"a"b`, `a"`, `"a"#`, "\"\\", "\xff\"", "\n\"", "\na", "\r\n b"} {
		mustBeWords(t, "a #"+remark, "a")
		mustBeWords(t, `"a" # `+remark, "a")
		mustBeWords(t, "#"+remark)
	}
}

func TestP2001NotEnded(t *testing.T) {
	t.Parallel()
	for _, line := range []string{
		`"`, `"a`, `a "`, `a "b c`, `"a" "`, `"\"`, `"\\\"`, `"a # b`, `"\n`, "\"a\n", "\"\xff", `"\x41`, `"""`, `" # "a" "`,
		`"\`, `"a\`, `"\x`, `"\x4`, `"a" "\x0`,
	} {
		mustBeNone(t, line)
	}
}

func TestP2001Neighbours(t *testing.T) {
	t.Parallel()
	for _, line := range []string{
		`"a"b`, `a"b"`, `"a""b"`, `""""`, `"a"#x`, `"a"#`, `""#`, `a""`, `""a`, `a"`, `a"b c"d`, `a#"b"`, `"a"\`, "\"a\"\n", "\"a\"\r", "\"a\"\xff", "\xff\"a\"", "\n\"a\"", `b "a"#`, `"a"b # c`,
	} {
		mustBeNone(t, line)
	}
}

// Each byte behind a backslash, alone and with others behind it; and the first bytes of runes.
func TestP2001BehindABackslash(t *testing.T) {
	t.Parallel()
	stand := map[byte]string{'"': "\"", '\\': "\\", 'n': "\n", 't': "\t"}
	for b := range 256 {
		s := string([]byte{byte(b)})
		if want, may := stand[byte(b)]; may {
			mustBeWords(t, `"`+`\`+s+`"`, want)
			mustBeWords(t, `"a\`+s+`b"`, "a"+want+"b")
			continue
		}
		if b != 'x' {
			mustBeNone(t, `"\`+s+`41"`)
		}
		mustBeNone(t, `"\`+s+`"`)
		mustBeNone(t, `"\`+s+` " b`)
		mustBeNone(t, `"a\`+s+`b" #`)
	}
	for _, s := range []string{"\u00e9", "\ufffd", "\u0161", "\u0122", "\U0001f600", "\u0178", "\u016e"} { // some whose last byte is that of a letter that may stand there
		mustBeNone(t, `"\`+s+`"`)
		mustBeNone(t, `"\x`+s+`0"`)
		mustBeNone(t, `"\x0`+s+`"`)
	}
}

// All that may stand behind \x: two bytes of all.
func TestP2001Hex(t *testing.T) {
	t.Parallel()
	const digits = "0123456789abcdef"
	for a := range 256 {
		for b := range 256 {
			high, low := strings.IndexByte(digits, byte(a)), strings.IndexByte(digits, byte(b))
			line := string([]byte{'"', '\\', 'x', byte(a), byte(b), '"'})
			if high >= 0 && low >= 0 {
				mustBeWords(t, line, string([]byte{byte(high<<4 | low)}))
			} else {
				mustBeNone(t, line)
			}
		}
	}
	for _, line := range []string{`"\x"`, `"\x4"`, `"\x4 "`, `"\xA0"`, `"\x0A"`, `"\xag"`, `"\x 41"`, `"\X41"`, `"\x-1"`, `"\x+1"`} {
		mustBeNone(t, line)
	}
}

// What is right by itself may have what is wrong behind it, and the other way round.
func TestP2001WrongAnywhere(t *testing.T) {
	t.Parallel()
	for _, bad := range []string{`"`, `"\q"`, `"a"b`, `a"b"`, `"\x0G"`} {
		mustBeNone(t, bad+" a")
		mustBeNone(t, "a "+bad)
		mustBeNone(t, `"a" `+bad+` "b"`)
		mustBeNone(t, bad+" #")
	}
}

// All lines of up to six signs, each kind of sign among them, held against the plain shell.
func TestP2001AllShort(t *testing.T) {
	t.Parallel()
	signs := []string{" ", "\t", "a", `"`, `\`, "#", "n", "x", "4", "\n", "\xc3"}
	var p plain
	var all func(line string, left int)
	n := 0
	all = func(line string, left int) {
		n++
		l, err := shell.Words(line)
		want, ok := p.words(line)
		if ok != (err == api.OK) || !ok && err != api.ErrWord || !slices.Equal(l, want) {
			t.Fatalf("Words(%q): %q, %v, not %q, %v", line, l, err, want, ok)
		}
		if left > 0 {
			for _, s := range signs {
				all(line+s, left-1)
			}
		}
	}
	all("", 5)
	for _, front := range []string{`"a`, `"\`, `"\x`, `"a" "`} {
		for _, s := range signs {
			all(front+s, 3)
		}
	}
	if n < 100000 {
		t.Error("too few:", n)
	}
}

// Long lines are taken to pieces in good time, and whole.
func TestP2001Long(t *testing.T) {
	t.Parallel()
	const n = 1 << 20
	mustBeWords(t, strings.Repeat("a", n), strings.Repeat("a", n))
	mustBeWords(t, `"`+strings.Repeat(`\x41`, n)+`"`, strings.Repeat("A", n))
	mustBeWords(t, `"`+strings.Repeat(`a\n`, n)+`"`, strings.Repeat("a\n", n))
	mustBeWords(t, strings.Repeat(" ", n)+"#"+strings.Repeat(`"`, n))
	mustBeNone(t, `"`+strings.Repeat(`\"`, n))
	mustBeNone(t, strings.Repeat(`"" `, n)+`"`)
	if l, err := shell.Words(strings.Repeat(`a "b" `, n)); err != api.OK || len(l) != 2*n || l[0] != "a" || l[2*n-1] != "b" {
		t.Error(len(l), err)
	}
}

func TestP2002Quote(t *testing.T) {
	t.Parallel()
	for _, x := range []struct{ bytes, want string }{
		{"", `""`}, {"a b", `"a b"`}, {"\"\\\n\t", `"\"\\\n\t"`}, {"\x00\x1f \x7e\x7f\xff", `"\x00\x1f ~\x7f\xff"`}, {"\r\v\a", `"\x0d\x0b\x07"`},
		{"\u00e9", `"\xc3\xa9"`}, {`\n`, `"\\n"`}, {`\x41`, `"\\x41"`}, {"#'`", "\"#'`\""}, {"\x80\xab\xcd\xef", `"\x80\xab\xcd\xef"`},
	} {
		if got := shell.Quote([]byte(x.bytes)); got != x.want {
			t.Errorf("Quote(%q): %s, not %s", x.bytes, got, x.want)
		}
	}
	if got := shell.Quote(nil); got != `""` {
		t.Error("Quote of no list:", got)
	}
}

// Each byte alone, by the chapter's words, and with each other one ahead of it.
func TestP2002AllBytes(t *testing.T) {
	t.Parallel()
	var one [256]string
	var whole []byte
	for b := range 256 {
		one[b] = fmt.Sprintf(`\x%02x`, b)
		switch {
		case b == '"', b == '\\':
			one[b] = `\` + string(rune(b))
		case b == '\n':
			one[b] = `\n`
		case b == '\t':
			one[b] = `\t`
		case b >= 32 && b <= 126:
			one[b] = string(rune(b))
		}
		whole = append(whole, byte(b))
	}
	for a := range 256 {
		for b := range 256 {
			if got, want := shell.Quote([]byte{byte(a), byte(b)}), `"`+one[a]+one[b]+`"`; got != want {
				t.Fatalf("%s, not %s", got, want)
			}
		}
	}
	if got := shell.Quote(whole); got != `"`+strings.Join(one[:], "")+`"` {
		t.Error(got)
	}
}

// What Quote writes Words takes to just these bytes, whatever stands beside it.
func TestP2002BackAgain(t *testing.T) {
	t.Parallel()
	back := func(b []byte) {
		t.Helper()
		q := shell.Quote(b)
		if strings.ContainsAny(q, "\n\t\r\x00") {
			t.Fatalf("%q", q)
		}
		mustBeWords(t, q, string(b))
		mustBeWords(t, " "+q+"\t"+q+" # x", string(b), string(b))
	}
	back(nil)
	for a := range 256 {
		back([]byte{byte(a)})
		for b := range 256 {
			back([]byte{byte(a), byte(b)})
		}
	}
	r := newLot(1)
	for range 3000 {
		back(r.bytes(r.Intn(40)))
	}
	back(r.bytes(1 << 20))
}
