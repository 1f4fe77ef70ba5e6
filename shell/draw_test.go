package shell_test

import (
	"fmt"
	"math/rand"
	"slices"
	"strings"

	"cairn/api"
)

// lot draws scripts.
type lot struct {
	*rand.Rand
	calm bool // nothing falls, and nobody stops
}

func newLot(seed int64) lot {
	r := rand.New(rand.NewSource(seed))
	return lot{Rand: r, calm: r.Intn(3) == 0}
}

func oneOf[T any](r lot, all ...T) T { return all[r.Intn(len(all))] }

func (r lot) bytes(n int) []byte {
	b := make([]byte, n)
	r.Read(b)
	return b
}

// text is bytes, most of them such as need to be quoted.
func (r lot) text(n int) string {
	const signs = "ab xyz\t\"\\\n#/.~\x00\x7f\xff\xc3\xa9\r"
	b := r.bytes(n)
	for i := range b {
		if r.Intn(4) > 0 {
			b[i] = signs[r.Intn(len(signs))]
		}
	}
	return string(b)
}

// quoted writes bytes as a quoted word, in one of many ways. (No line feed and no carriage return stands there as it is.)
func (r lot) quoted(s string) string {
	q := `"`
	for _, b := range []byte(s) {
		switch {
		case r.Intn(6) == 0, b == '\n' || b == '\r':
			q += fmt.Sprintf(`\x%02x`, b)
		case b == '"' || b == '\\':
			q += `\` + string(rune(b))
		case b == '\t' && r.Intn(2) == 0:
			q += `\t`
		default:
			q += string([]byte{b})
		}
	}
	return q + `"`
}

// word writes a word as it stands, or quoted.
func (r lot) word(s string) string {
	if s == "" || s[0] == '#' || strings.ContainsAny(s, " \t\n\r\"") || r.Intn(12) == 0 {
		return r.quoted(s)
	}
	return s
}

func (r lot) number(n int) string {
	if n >= 0 && r.Intn(20) == 0 {
		return fmt.Sprintf("%03d", n)
	}
	if r.Intn(60) == 0 {
		return oneOf(r, "-1", "-0", "007", "123456789012345", "-123456789012345", "1234567890123456", "", "+1", "x", "0x1", "1.", "-", "99", "4096", "4097")
	}
	return fmt.Sprint(n)
}

func (r lot) client() string {
	if r.Intn(12) == 0 {
		return r.number(oneOf(r, 8, 9, 0))
	}
	return r.number(1 + r.Intn(3))
}

func (r lot) server(p *plain) string {
	if len(p.c.Servers) == 0 || r.Intn(30) == 0 {
		return r.number(77)
	}
	return r.number(oneOf(r, p.c.Servers...))
}

func (r lot) name() string {
	if r.Intn(40) == 0 {
		return r.word(oneOf(r, "", "a/b", "a\x00", strings.Repeat("n", 255), strings.Repeat("n", 256)))
	}
	return r.word(oneOf(r, "a", "a", "b", "a b", "\xff\n"))
}

// entry is a name and its file, mostly.
func (r lot) entry(p *plain) string {
	if p.w != nil && r.Intn(5) > 0 {
		for _, l := range slices.Backward(p.w.History()) {
			if e := l.Result.Entry; l.Kind == api.HReturn && e.File.Op > 0 && r.Intn(3) > 0 {
				return r.word(e.Name) + fmt.Sprintf(" %d.%d", e.File.Client, e.File.Op)
			}
		}
	}
	return r.name() + " " + r.file(p)
}

// file is one that a command was answered, mostly.
func (r lot) file(p *plain) string {
	if r.Intn(12) == 0 {
		return oneOf(r, "0.0", "0.0", "0.0", "1.0", "0.1", "1", "1.", ".1", "1.-1", "-1.1", "1.1.1", "256.1", "1.1099511627776", "1.1099511627777", "1,1", "", "001.001", "1.1234567890123456")
	}
	var all []string
	if p.w != nil && r.Intn(8) > 0 {
		for _, l := range p.w.History() {
			if e := l.Result.Entry; l.Kind == api.HReturn && e.File.Op > 0 {
				all = append(all, fmt.Sprintf("%d.%d", e.File.Client, e.File.Op))
			}
		}
	}
	return oneOf(r, append(all, "1.1", "2.1")...)
}

// index is that of a block.
func (r lot) index() string {
	if r.Intn(20) == 0 {
		return oneOf(r, "-1", "1048575", "1048576")
	}
	return r.number(r.Intn(2))
}

// packet is the name of one that is under way, mostly.
func (r lot) packet(p *plain) string {
	if r.Intn(25) > 0 && p.w != nil {
		if under := p.w.Under(); len(under) > 0 {
			q := under[r.Intn(min(len(under), 5))]
			if r.Intn(3) == 0 {
				q = oneOf(r, under...)
			}
			return fmt.Sprintf("%s%d %s", map[bool]string{true: "c", false: "s"}[q.From.Client], q.From.Id, r.number(q.Count))
		}
	}
	if r.Intn(4) == 0 {
		return oneOf(r, "s1 -1", "c1 -7", "c999 -1")
	}
	return oneOf(r, "s1", "c1", "c001", "s255", "c999", "s1000", "s-1", "1", "S1", "s", "c", "x1", "sc1", "cs1", "C1", "") + " " + r.number(r.Intn(4))
}

func (r lot) size(p *plain) string {
	most := 3*min(max(p.c.Block, 1), 3) + 1
	if r.Intn(20) == 0 {
		return oneOf(r, "-1", fmt.Sprint(api.MaxIndex*p.c.Block+1), "123456789012345")
	}
	return r.number(r.Intn(most))
}

func (r lot) world() string {
	return oneOf(r,
		"world 0 1 1 2 2 300 7", "world 0 1 1 2 2 12 7", "world 1 2 2 3 2 400 3 1 2", "world 1 2 2 3 2 400 3 1 2", "world 1 3 1 1 3 300 1 2 3 4 5",
		"world 2 1 3 3 2 600 5 4 3 2 1", "world 0 2 2 1 2 200 1 2", "world 1 64 256 4096 256 900 255 254 253",
	)
}

// wrongWorld is one that New refuses, mostly.
func (r lot) wrongWorld() string {
	l := strings.Fields(r.world())
	l[1+r.Intn(len(l)-1)] = oneOf(r, "0", "-1", "65537", "257", "4097")
	return strings.Join(l, " ")
}

func (r lot) invocation(p *plain, c string) string {
	switch r.Intn(16) {
	case 0, 1, 2:
		return "create " + c + " " + r.name()
	case 3:
		return "remove " + c + " " + r.name()
	case 4:
		return "lookup " + c + " " + r.name()
	case 5:
		return "list " + c + " " + r.number(r.Intn(3))
	case 6:
		return "setsize " + c + " " + r.entry(p) + " " + r.size(p)
	case 7:
		return "grow " + c + " " + r.entry(p) + " " + r.size(p)
	case 8:
		return "replace " + c + " " + r.entry(p) + " " + r.file(p) + " " + r.size(p)
	case 9:
		return "read " + c + " " + r.file(p) + " " + r.index()
	case 10, 11:
		return "write " + c + " " + r.file(p) + " " + r.index() + " " + r.word(r.text(r.Intn(min(max(p.c.Block, 1), 5)+2)))
	case 12:
		return "readat " + c + " " + r.name() + " " + r.size(p) + " " + r.size(p)
	case 13:
		return "writeat " + c + " " + r.name() + " " + r.size(p) + " " + r.word(r.text(r.Intn(9)))
	case 14:
		return "truncate " + c + " " + r.name() + " " + r.size(p)
	}
	return "copy " + c + " " + r.name() + " " + r.name()
}

func (r lot) happening(p *plain) string {
	n := r.Intn(100)
	if r.calm && n >= 60 && n < 82 {
		n = 0
	}
	if n < 55 && p.w != nil && len(p.w.Under()) == 0 && r.Intn(6) > 0 {
		return r.invocation(p, r.client())
	}
	switch {
	case n < 45:
		return "deliver " + r.packet(p)
	case n < 50:
		return "lose " + r.packet(p)
	case n < 55:
		return "double " + r.packet(p)
	case n < 60:
		return "tick " + r.client()
	case n < 68:
		return "fall " + r.server(p) + " " + r.number(r.Intn(4)-r.Intn(12)/11)
	case n < 80:
		return "start " + r.server(p)
	case n < 82:
		return oneOf(r, "quota "+r.server(p)+" "+oneOf(r, "0", "4", "60", "1000", "-1"), "stop "+oneOf(r, r.client(), "8"))
	case n < 90:
		return "trim " + r.server(p) + " " + r.number(r.Intn(3)) + " " + r.number(oneOf(r, 0, 1, 2, 9, 9))
	case n < 95:
		return "mend " + r.server(p) + " " + r.server(p) + " block " + r.file(p) + " " + r.index()
	}
	return "mend " + r.server(p) + " " + r.server(p) + " bucket " + r.number(r.Intn(3))
}

func (r lot) question(p *plain) string {
	switch r.Intn(16) {
	case 0:
		return "all"
	case 1, 2, 3:
		return "result " + r.client()
	case 4:
		return "history"
	case 5:
		return "witness"
	case 6:
		return "legal"
	case 7:
		return "audit"
	case 8:
		return "group " + r.file(p) + " " + r.number(r.Intn(3))
	case 9:
		return "bucket " + r.word(r.text(r.Intn(4)))
	case 10, 11:
		return "held " + r.server(p) + " " + r.file(p) + " " + r.index()
	case 12:
		return "trimmed " + r.server(p) + " " + r.number(r.Intn(3))
	}
	return oneOf(r, "under", "under", "fair "+r.client()+" 9", r.happening(p))
}

// lines are one, or an invocation with what brings its answer.
func (r lot) lines(p *plain) []string {
	switch n := r.Intn(100); {
	case p.w == nil && r.Intn(4) == 0, n == 0:
		return []string{r.world()}
	case n < 3:
		return []string{r.wrongWorld()}
	case n < 4:
		return []string{oneOf(r, "", " \t", "# x", "frob", `"`, "mend 1 2 frob 0", "mend 1 2 frob 1.1 0", "mend 1 2 block 0", "mend 1 2 bucket 1.1 0", `""`)}
	case n < 20:
		c := r.client()
		return []string{r.invocation(p, c), "fair " + c + " 60", "result " + c}[:oneOf(r, 1, 3)]
	case n < 26:
		return []string{"fair " + r.client() + " " + r.number(oneOf(r, 1, 9, 9, 40, 40, 0))}
	case n < 60:
		return []string{r.question(p)}
	}
	return []string{r.happening(p)}
}

// written is a line with blanks and remarks here and there; now and then its words are more or fewer, or other bytes.
func (r lot) written(line string) string {
	switch r.Intn(60) {
	case 0:
		line += " " + oneOf(r, "1", "a", `""`)
	case 1:
		line = line[:strings.LastIndexAny(line, " ")+1]
	case 2:
		if i := r.Intn(len(line) + 1); i < len(line) {
			line = line[:i] + oneOf(r, "", " ", "\"", "\\", "#", "\t", "\xff", "\r", "-", "0", "A") + line[i+r.Intn(2):]
		}
	case 3:
		line = oneOf(r, " ", "\t", " \t ") + line + oneOf(r, " ", "\t", "\r", " #", "\t# a \"", "#")
	case 4:
		line = strings.ToUpper(line[:1]) + line[1:]
	case 5:
		line = strings.Replace(line, " ", oneOf(r, "  ", "\t", " \t"), 1)
	}
	return strings.ReplaceAll(line, "\n", "")
}

// script draws lines, with what they were answered by the plain shell, which plays along.
func (r lot) script(lines int) (string, []string) {
	p := &plain{}
	var script, want []string
	for len(script) < lines {
		for _, line := range r.lines(p) {
			if line != "" {
				line = r.written(line)
			}
			script, want = append(script, line), append(want, p.line(line))
		}
	}
	if r.Intn(2) == 0 && script[len(script)-1] != "" {
		return strings.Join(script, "\n"), want
	}
	return strings.Join(script, "\n") + "\n", want
}
