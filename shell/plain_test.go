package shell_test

import (
	"fmt"
	"maps"
	"regexp"
	"slices"
	"strconv"
	"strings"

	"cairn/api"
	"cairn/audit"
	"cairn/history"
	"cairn/ring"
	"cairn/world"
)

// plain is a shell by the chapter's words: its lines are held against patterns, its answers written by fmt. One of its rules may be broken on purpose.
type plain struct {
	wrong string
	heard bool // the rule was asked for
	w     *world.World
	c     api.Config
	g     grammar
}

func (p *plain) breaks(rule string) bool {
	if p.wrong != rule {
		return false
	}
	p.heard = true
	return true
}

// or is one of two, by whether a rule is broken.
func or[T any](p *plain, rule string, broken, kept T) T {
	if p.breaks(rule) {
		return broken
	}
	return kept
}

// grammar is the patterns of a line: (word blanks)* (word | remark)?
type grammar struct {
	line, piece, escape *regexp.Regexp
}

func newGrammar(p *plain) grammar {
	blank := or(p, "tabs part no words", " ", `[ \t]`)
	blank = or(p, "a carriage return parts words", `[ \t\r]`, blank)
	blank = or(p, "a line feed parts words", `[ \t\n]`, blank)
	apart := or(p, "quoted words need no blanks", blank+"*", blank+"+")
	plain := `[^ \t"#][^ \t"]*`
	plain = or(p, "a quote inside a word stands for itself", `[^ \t"#][^ \t]*`, plain)
	plain = or(p, "# inside a word begins a remark", `[^ \t"#][^ \t"#]*`, plain)
	plain = or(p, "there are no remarks", `[^ \t"][^ \t"]*`, plain)
	plain = or(p, "a line feed parts words", `[^ \t"#\n][^ \t"\n]*`, plain)
	plain = or(p, "a carriage return parts words", `[^ \t"#\r][^ \t"\r]*`, plain)
	plain = or(p, "tabs part no words", `[^ "#][^ "]*`, plain)
	digit := or(p, "upper case digits are read", "[0-9a-fA-F]", "[0-9a-f]")
	escape := `\\(?:["\\nt]|x` + digit + digit + `)`
	escape = or(p, `\r may stand`, `\\(?:["\\ntr]|x`+digit+digit+`)`, escape)
	escape = or(p, `\x may have one digit`, `\\(?:["\\nt]|x`+digit+digit+`?)`, escape)
	escape = or(p, "all may stand behind a backslash", `\\(?:x`+digit+digit+`|(?s:.))`, escape)
	quoted := `"(?:[^"\\]|` + escape + `)*"`
	quoted = or(p, "a line's end ends a quote", `"(?:[^"\\]|`+escape+`)*(?:"|$)`, quoted)
	quoted = or(p, "a line feed may not be quoted", `"(?:[^"\\\n]|`+escape+`)*"`, quoted)
	word := "(?:" + plain + "|" + quoted + ")"
	remark := or(p, "a remark ends at a line feed", "#[^\n]*", "(?s:#.*)")
	remark = or(p, "remarks are looked at", `#[^"]*`, remark)
	tail := "(?:" + word + "|" + remark + ")?"
	if p.breaks("# inside a word begins a remark") || p.breaks("a remark may stand right behind a quoted word") {
		tail = word + "?(?:" + remark + ")?"
	}
	return grammar{
		line:   regexp.MustCompile("^" + blank + "*(?:" + word + apart + ")*" + tail + "$"),
		piece:  regexp.MustCompile("^" + blank + "*(" + word + ")"),
		escape: regexp.MustCompile(escape),
	}
}

// words takes a line to pieces; false: it has none.
func (p *plain) words(line string) ([]string, bool) {
	if p.g.line == nil {
		p.g = newGrammar(p)
	}
	if !p.g.line.MatchString(line) {
		return nil, false
	}
	var l []string
	for {
		m := p.g.piece.FindStringSubmatch(line)
		if m == nil {
			return l, true
		}
		line = line[len(m[0]):]
		w := m[1]
		if w[0] == '"' {
			w = p.unquoted(w)
			if w == "" && p.breaks("empty words are passed over") {
				continue
			}
			if strings.HasPrefix(w, "#") && p.breaks("a quoted # begins a remark") {
				return l, true
			}
		}
		l = append(l, w)
	}
}

func (p *plain) unquoted(w string) string {
	if p.breaks("quotes stay") {
		return w
	}
	w = strings.TrimSuffix(w[1:], `"`)
	return p.g.escape.ReplaceAllStringFunc(w, func(e string) string {
		switch {
		case e[1] == 'n':
			return or(p, `\n stands for n`, "n", "\n")
		case e[1] == 't':
			return or(p, `\t stands for t`, "t", "\t")
		case e[1] == 'r' && p.breaks(`\r may stand`):
			return "\r"
		case e[1] == 'x' && len(e) > 2:
			n, _ := strconv.ParseUint(e[2:], 16, 8)
			if p.breaks(`\x is a rune`) {
				return string(rune(n))
			}
			return string([]byte{byte(n)})
		}
		return e[1:]
	})
}

func (p *plain) quote(b []byte) string {
	var s strings.Builder
	s.WriteByte('"')
	for _, x := range b {
		switch {
		case x == '"', x == '\\':
			s.WriteString(`\` + string(rune(x)))
		case x == '\n' && !p.breaks("line feeds are quoted by digits"):
			s.WriteString(`\n`)
		case x == '\t' && !p.breaks("tabs are quoted by digits"):
			s.WriteString(`\t`)
		case x < 32, x > 126:
			fmt.Fprintf(&s, or(p, "digits in upper case", `\x%02X`, `\x%02x`), x)
		default:
			s.WriteByte(x)
		}
	}
	s.WriteByte('"')
	return s.String()
}

func (p *plain) run(script string) string {
	p.w, p.c = nil, api.Config{}
	if p.breaks("a carriage return goes with its line feed") {
		script = strings.ReplaceAll(script, "\r\n", "\n")
	}
	lines := strings.SplitAfter(script, "\n")
	if lines[len(lines)-1] == "" && !p.breaks("behind the last line feed stands a line") {
		lines = lines[:len(lines)-1]
	}
	if n := len(lines); n > 0 && !strings.HasSuffix(lines[n-1], "\n") && p.breaks("a line without a line feed is none") {
		lines = lines[:n-1]
	}
	if len(script) > or(p, "65535 bytes are the most", 65535, or(p, "65537 bytes may be", 65537, 65536)) || len(lines) > or(p, "511 lines are the most", 511, or(p, "513 lines may be", 513, 512)) {
		return "long\n"
	}
	var told strings.Builder
	for _, l := range lines {
		a := p.line(strings.TrimSuffix(l, "\n"))
		if len(a) > or(p, "131071 bytes are the most", 131071, or(p, "131073 bytes may be", 131073, 131072)) {
			a = or(p, "a long answer is cut", a[:131072], or(p, "a long answer is empty", "", "long"))
		}
		if a == "" && p.breaks("an empty line is not answered") {
			continue
		}
		told.WriteString(a + "\n")
	}
	return told.String()
}

var (
	numberForm  = regexp.MustCompile(`^(?:[0-9]{1,15}|-[0-9]{1,15})$`)
	zeroForm    = regexp.MustCompile(`^-0+$`)
	addressForm = regexp.MustCompile(`^[sc][0-9]{1,3}$`)
	fileForm    = regexp.MustCompile(`^[0-9]{1,15}\.[0-9]{1,15}$`)
)

func (p *plain) isNumber(s string) bool {
	if p.breaks("16 digits read") && len(s) == 16 {
		s = s[:15]
	}
	switch {
	case len(s) == 15 && s[0] != '-' && p.breaks("14 digits are the most"), strings.HasPrefix(s, "-") && len(s) == 16 && p.breaks("the sign counts as a digit"):
		return false
	case zeroForm.MatchString(s):
		return p.breaks("-0 reads")
	case strings.HasPrefix(s, "0") && len(s) > 1 && p.breaks("007 does not read"), strings.HasPrefix(s, "-") && p.breaks("nothing is below 0"):
		return false
	case strings.HasPrefix(s, "+") && p.breaks("+ is a sign"), s == "" && p.breaks("no digits are 0"):
		return true
	}
	return numberForm.MatchString(s)
}

func (p *plain) isAddress(s string) bool {
	switch {
	case len(s) == 5 && p.breaks("addresses of four digits read"), len(s) > 1 && s[1] == '-' && p.breaks("addresses with a sign read"):
		return strings.ContainsAny(s[:1], "sc")
	case len(s) == 4 && p.breaks("addresses of three digits do not read"):
		return false
	case len(s) > 0 && strings.ContainsAny(s[:1], "SC") && p.breaks("addresses in upper case read"):
		return true
	case p.breaks("a number is a server's address") && numberForm.MatchString(s):
		return true
	case len(s) == 1 && p.breaks("an address needs no digit"):
		return true
	}
	return addressForm.MatchString(s)
}

func (p *plain) isFile(s string) bool {
	switch {
	case strings.Contains(s, "-") && p.breaks("files with a sign read"):
		return true
	case s == "0.0" && p.breaks("0.0 does not read"), strings.Contains(s, ".0") && len(s) > 3 && p.breaks("files with zeros ahead do not read"):
		return false
	case p.breaks("a number is a file") && numberForm.MatchString(s):
		return true
	case strings.Count(s, ".") == 2 && p.breaks("files of three numbers read"):
		return true
	}
	return fileForm.MatchString(s)
}

// forms are the words behind a command: C, S, N numbers, A an address, F a file, T any bytes, .. more of the last one; all others as they stand.
func forms() map[string][]string {
	m := map[string][]string{}
	for name, all := range map[string]string{
		"world": "N N N N N N S ..", "create": "C T", "remove": "C T", "lookup": "C T", "list": "C N", "setsize": "C T F N", "grow": "C T F N",
		"replace": "C T F F N", "read": "C F N", "write": "C F N T", "readat": "C T N N", "writeat": "C T N T", "truncate": "C T N", "copy": "C T T",
		"deliver": "A N", "lose": "A N", "double": "A N", "tick": "C", "stop": "C", "fall": "S N", "start": "S", "quota": "S N", "trim": "S N N",
		"mend": "S S block F N|S S bucket N", "fair": "C N", "all": "", "under": "", "result": "C", "history": "", "witness": "", "legal": "", "audit": "",
		"group": "F N", "bucket": "T", "held": "S F N", "trimmed": "S N",
	} {
		m[name] = strings.Split(all, "|")
	}
	return m
}

func (p *plain) reads(form string, l []string) bool {
	needs := strings.Fields(form)
	if n := len(needs); n > 0 && needs[n-1] == ".." {
		needs = needs[:n-1]
		for len(needs) < len(l) {
			needs = append(needs, "S")
		}
	}
	if len(l) > len(needs) && p.breaks("words beyond are passed over") {
		l = l[:len(needs)]
	}
	if len(l) != len(needs) {
		return false
	}
	for i, n := range needs {
		switch n {
		case "C", "S", "N":
			if !p.isNumber(l[i]) {
				return false
			}
		case "A":
			if !p.isAddress(l[i]) {
				return false
			}
		case "F":
			if !p.isFile(l[i]) {
				return false
			}
		case "T":
		default:
			if l[i] != n && !p.breaks("any word stands for block and bucket") {
				return false
			}
		}
	}
	return true
}

func (p *plain) line(line string) string {
	l, ok := p.words(line)
	if !ok {
		return "word"
	}
	if len(l) == 0 {
		return or(p, "an empty line is ok", "ok", "")
	}
	name := l[0]
	if p.breaks("commands in upper case read") {
		name = strings.ToLower(name)
	}
	form, known := forms()[name]
	switch {
	case !known:
		return or(p, "what is no command is nothing", "", "word")
	case p.w == nil && name != "world" && p.breaks("without a world words are not looked at"):
		return "none"
	case !slices.ContainsFunc(form, func(f string) bool { return p.reads(f, l[1:]) }):
		return "word"
	case p.w == nil && name != "world":
		if (name == "bucket" || name == "group") && p.breaks("group and bucket need no world") {
			return "key"
		}
		if (name == "all" || name == "under" || name == "history") && p.breaks("without a world nothing is under way") {
			return "ok"
		}
		return "none"
	}
	return p.does(name, l[1:])
}

func num(s string) int {
	n, _ := strconv.Atoi(s)
	return n
}

func fileOf(s string) api.File {
	client, op, _ := strings.Cut(s, ".")
	return api.File{Client: num(client), Op: num(op)}
}

func addrOf(s string) api.Addr {
	return api.Addr{Client: strings.HasPrefix(s, "c"), Id: num(strings.TrimLeft(s, "sc"))}
}

func block(f api.File, index int) api.Key {
	return api.Key{Kind: api.KBlock, A: f.Client, B: f.Op, C: index}
}

func (p *plain) does(name string, l []string) string {
	switch name {
	case "world":
		return p.world(l)
	case "all", "under", "result", "history", "witness", "legal", "audit", "group", "bucket", "held", "trimmed", "fair":
		return p.asks(name, l)
	}
	if o, is := p.op(name, l); is {
		return p.do(api.Event{Kind: api.EInvoke, Client: num(l[0]), Op: o})
	}
	return p.do(p.event(name, l))
}

func (p *plain) do(e api.Event) string {
	if err := p.w.Do(e); err != api.OK {
		return or(p, "errors are told by their numbers", strconv.Itoa(int(err)), err.Error())
	}
	return "ok"
}

func (p *plain) world(l []string) string {
	c := api.Config{F: num(l[0]), Points: num(l[1]), Buckets: num(l[2]), Block: num(l[3]), Room: num(l[4])}
	for _, s := range l[6:] {
		c.Servers = append(c.Servers, num(s))
	}
	if p.breaks("Room comes ahead of Block") {
		c.Block, c.Room = c.Room, c.Block
	}
	if p.breaks("Buckets come ahead of Points") {
		c.Points, c.Buckets = c.Buckets, c.Points
	}
	clients := []int{1, 2, 3, 4, 5, 6, 7, 8}
	clients = or(p, "there are nine clients", append(clients, 9), or(p, "there are seven clients", clients[:7], clients))
	w, err := world.New(c, clients, num(l[5]))
	switch {
	case err != api.OK && p.breaks("a world that is refused takes the elder one away"):
		p.w = nil
	case err == api.OK && p.w != nil && p.breaks("the first world stays"):
	case err == api.OK:
		p.w, p.c = w, c
	}
	return err.Error()
}

// op is the operation that a command invokes; false: it invokes none.
func (p *plain) op(name string, l []string) (api.Op, bool) {
	name = or(p, "setsize grows", strings.Replace(name, "setsize", "grow", 1), name)
	name = or(p, "grow sets the size", strings.Replace(name, "grow", "setsize", 1), name)
	name = or(p, "remove looks up", strings.Replace(name, "remove", "lookup", 1), name)
	name = or(p, "lookup removes", strings.Replace(name, "lookup", "remove", 1), name)
	one := func(i int) string { return l[i] }
	switch name {
	case "create":
		return api.Op{Kind: api.OCreate, Name: one(1)}, true
	case "remove":
		return api.Op{Kind: api.ORemove, Name: one(1)}, true
	case "lookup":
		return api.Op{Kind: api.OLookup, Name: one(1)}, true
	case "list":
		return api.Op{Kind: api.OList, N: num(one(1))}, true
	case "setsize":
		return api.Op{Kind: api.OSetSize, Name: one(1), File: fileOf(one(2)), N: num(one(3))}, true
	case "grow":
		return api.Op{Kind: api.OGrow, Name: one(1), File: fileOf(one(2)), N: num(one(3))}, true
	case "replace":
		old, new := or(p, "replace has its new file first", 3, 2), or(p, "replace has its new file first", 2, 3)
		return api.Op{Kind: api.OReplace, Name: one(1), File: fileOf(one(old)), New: fileOf(one(new)), N: num(one(4))}, true
	case "read":
		return api.Op{Kind: api.ORead, File: fileOf(one(1)), N: num(one(2))}, true
	case "write":
		return api.Op{Kind: api.OWrite, File: fileOf(one(1)), N: num(one(2)), Data: p.blockOf(one(3))}, true
	case "readat":
		at, n := or(p, "readat has N first", 3, 2), or(p, "readat has N first", 2, 3)
		return api.Op{Kind: api.OReadAt, Name: one(1), At: num(one(at)), N: num(one(n))}, true
	case "writeat":
		data := []byte(one(3))
		return api.Op{Kind: api.OWriteAt, Name: one(1), At: num(one(2)), Data: or(p, "writeat fills a block up", p.blockOf(one(3)), data)}, true
	case "truncate":
		return api.Op{Kind: api.OTruncate, Name: one(1), N: num(one(2))}, true
	case "copy":
		return api.Op{Kind: api.OCopy, Name: one(or(p, "copy has its new name first", 2, 1)), Other: one(or(p, "copy has its new name first", 1, 2))}, true
	}
	return api.Op{}, false
}

// blockOf is what write writes.
func (p *plain) blockOf(s string) []byte {
	b := []byte(s)
	if p.breaks("write fills nothing up") {
		return b
	}
	for len(b) < p.c.Block {
		b = or(p, "write fills up with blanks", append(b, ' '), or(p, "write fills up ahead", append([]byte{0}, b...), append(b, 0)))
	}
	if len(b) > p.c.Block && p.breaks("write leaves off what is more") {
		b = b[:p.c.Block]
	}
	return b
}

func (p *plain) event(name string, l []string) api.Event {
	switch name {
	case "deliver":
		return api.Event{Kind: or(p, "deliver loses", api.ELose, api.EDeliver), Addr: addrOf(l[0]), N: num(l[1])}
	case "lose":
		return api.Event{Kind: or(p, "lose delivers", api.EDeliver, api.ELose), Addr: addrOf(l[0]), N: num(l[1])}
	case "double":
		return api.Event{Kind: or(p, "double loses", api.ELose, api.EDouble), Addr: addrOf(l[0]), N: num(l[1])}
	case "tick":
		return api.Event{Kind: or(p, "tick stops", api.EStop, api.ETick), Client: num(l[0])}
	case "stop":
		return api.Event{Kind: or(p, "stop ticks", api.ETick, api.EStop), Client: num(l[0])}
	case "fall":
		return api.Event{Kind: or(p, "fall tears", api.ETear, api.EFall), Server: num(l[0]), N: num(l[1]) + or(p, "fall counts one more", 1, 0)}
	case "start":
		return api.Event{Kind: api.EStart, Server: num(l[0])}
	case "quota":
		return api.Event{Kind: api.EQuota, Server: num(l[0]), N: num(l[1]) * or(p, "quota is of bytes", 512, 1)}
	case "trim":
		return api.Event{Kind: api.ETrim, Server: num(l[0]), N: num(l[or(p, "trim has its bucket last", 2, 1)]), Upto: num(l[or(p, "trim has its bucket last", 1, 2)])}
	}
	e := api.Event{Kind: api.EMend, Server: num(l[or(p, "mend mends the other one", 1, 0)]), Other: num(l[or(p, "mend mends the other one", 0, 1)])}
	if l[2] == "block" && len(l) == 5 {
		e.Key = block(fileOf(l[3]), num(l[4]))
	} else {
		e.Key = api.Key{Kind: api.KBucket, A: num(l[3])}
	}
	if p.breaks("mend of a bucket is of its first instance") && e.Key.Kind == api.KBucket {
		e.Key = api.Key{Kind: api.KInstance, A: e.Key.A, B: 1}
	}
	return e
}

func list[T any](all []T, word func(T) string) string {
	s := "ok"
	for _, x := range all {
		s += " " + word(x)
	}
	return s
}

func (p *plain) asks(name string, l []string) string {
	switch name {
	case "fair":
		return p.fair(num(l[0]), num(l[1]))
	case "all":
		return fmt.Sprint("ok ", p.all())
	case "under":
		return p.under()
	case "result":
		return p.result(num(l[0]))
	case "history":
		n := len(p.w.History())
		if p.breaks("history counts operations") {
			n = len(slices.DeleteFunc(p.w.History(), func(l api.Line) bool { return l.Kind != api.HInvoke }))
		}
		return fmt.Sprint("ok ", n)
	case "witness":
		order, ok := history.Witness(p.c, p.w.History())
		if !ok {
			return "no"
		}
		return list(order, func(n int) string { return strconv.Itoa(n + or(p, "witness counts from 1 on", 1, 0)) })
	case "legal":
		lines := p.w.History()
		if order, ok := history.Witness(p.c, lines); ok {
			return fmt.Sprint("ok ", or(p, "legal counts lines", len(lines), history.Legal(p.c, lines, order)))
		}
		return "no"
	case "audit":
		return p.audit()
	}
	return p.looks(name, l)
}

func (p *plain) looks(name string, l []string) string {
	r, _ := ring.New(p.c)
	switch name {
	case "group":
		k := block(fileOf(l[0]), num(l[1]))
		if p.breaks("group is of a bucket") {
			k = api.Key{Kind: api.KBucket, A: num(l[1])}
		}
		group, err := r.Group(k)
		if err != api.OK {
			return err.Error()
		}
		if p.breaks("group is sorted") {
			slices.Sort(group)
		}
		return list(group, strconv.Itoa)
	case "bucket":
		if (l[0] == "" || strings.Contains(l[0], "/")) && p.breaks("bucket is of names alone") {
			return "name"
		}
		return fmt.Sprint("ok ", r.Bucket(l[0]))
	case "held":
		b := p.w.Block(num(l[0]), block(fileOf(l[1]), num(l[2])))
		stamp := fmt.Sprintf("%d.%d", b.Stamp.N, b.Stamp.Client)
		if p.breaks("held has the client first") {
			stamp = fmt.Sprintf("%d.%d", b.Stamp.Client, b.Stamp.N)
		}
		switch {
		case !p.isServer(num(l[0])) && p.breaks("held of nobody is an address that is none"):
			return "addr"
		case b.Stamp.N == 0 && p.breaks("held of nothing is ok alone"):
			return "ok"
		}
		return "ok " + stamp + " " + p.quote(b.Data)
	}
	if !p.isServer(num(l[0])) && p.breaks("trimmed of nobody is none") {
		return "none"
	}
	b := p.w.Bucket(num(l[0]), num(l[1]))
	return fmt.Sprint("ok ", or(p, "trimmed counts entries", len(b.Entries), b.Upto))
}

func (p *plain) isServer(id int) bool { return slices.Contains(p.c.Servers, id) }

func (p *plain) fair(client, n int) string {
	least := or(p, "fair of 0 is arg", 1, or(p, "fair of -1 is ok", -1, 0))
	most := or(p, "fair of 4096 is arg", 4095, or(p, "fair of 4097 is ok", 4097, 4096))
	if n < least || n > most {
		return "arg"
	}
	if (client < 1 || client > 8) && p.breaks("fair of nobody is an address that is none") {
		return "addr"
	}
	k := p.w.Fair(client, n)
	if k < 0 && p.breaks("fair tells no number below 0") {
		return "ok"
	}
	return fmt.Sprint("ok ", k)
}

func (p *plain) all() int {
	n := 0
	once := len(p.w.Under())
	for n < or(p, "4095 are all", 4095, or(p, "4097 are all", 4097, 4096)) {
		under := p.w.Under()
		if len(under) == 0 || n == once && p.breaks("all is what is under way now") {
			break
		}
		q := under[or(p, "all begins with the last one", len(under)-1, 0)]
		p.w.Do(api.Event{Kind: api.EDeliver, Addr: q.From, N: q.Count})
		n++
	}
	return n + or(p, "all counts one more", 1, 0)
}

func (p *plain) under() string {
	addr := func(a api.Addr) string {
		if a.Client {
			return fmt.Sprint("c", a.Id)
		}
		return fmt.Sprint("s", a.Id)
	}
	under := p.w.Under()
	if p.breaks("under goes by names") {
		slices.SortStableFunc(under, func(a, b api.Packet) int { return strings.Compare(addr(a.From), addr(b.From)) })
	}
	if p.breaks("under tells a name once") {
		under = slices.CompactFunc(under, func(a, b api.Packet) bool { return a.From == b.From && a.Count == b.Count })
	}
	return list(under, func(q api.Packet) string {
		from, to := q.From, q.To
		if p.breaks("under tells to whom first") {
			from, to = to, from
		}
		return fmt.Sprintf("%s.%d>%s", addr(from), q.Count, addr(to))
	})
}

func (p *plain) result(client int) string {
	if p.w.Pending(client) && !p.breaks("pending is not looked at") {
		return "pending"
	}
	if (client < 1 || client > 8) && p.breaks("result of nobody is an address that is none") {
		return "addr"
	}
	var all []api.Result
	begun := false
	for _, l := range p.w.History() {
		if l.Client != client && !p.breaks("results are everybody's") {
			continue
		}
		switch l.Kind {
		case api.HBegin:
			begun = !p.breaks("parts are told")
		case api.HEnd:
			begun = false
			if !p.breaks("parts are told") && !p.breaks("ends are not told") {
				all = append(all, l.Result)
			}
		case api.HReturn:
			if !begun && !p.breaks("ends alone are told") {
				all = append(all, l.Result)
			}
		}
	}
	if len(all) == 0 {
		return "none"
	}
	return or(p, "result has one ok", "", "ok ") + p.told(all[or(p, "the first result is told", 0, len(all)-1)])
}

func (p *plain) told(r api.Result) string {
	s := r.Err.Error()
	if r.Err != api.OK && !p.breaks("errors have more behind them") {
		return s
	}
	entry := func(e api.Entry) string {
		name := or(p, "names are not quoted", e.Name, p.quote([]byte(e.Name)))
		f := fmt.Sprintf(or(p, "files have their op first", " %[2]d.%[1]d", " %d.%d"), e.File.Client, e.File.Op)
		if e.Size == 0 && p.breaks("a size of 0 is not told") {
			return " " + name + f
		}
		return " " + name + f + fmt.Sprintf(" %d", e.Size)
	}
	parts := map[string]string{}
	if r.Entry != (api.Entry{}) || p.breaks("no entry is told") {
		parts["entry"] = entry(r.Entry)
	}
	for _, e := range r.List {
		parts["list"] += entry(e)
		if p.breaks("one of a list is told") {
			break
		}
	}
	zeros := strings.Trim(string(r.Data), "\x00") == ""
	if len(r.Data) > 0 && !(zeros && p.breaks("bytes that are 0 are not told")) || p.breaks("no bytes are told") {
		parts["data"] = " " + p.quote(r.Data)
	}
	if r.N != 0 || p.breaks("0 is told") {
		parts["n"] = fmt.Sprintf(" %d", r.N)
	}
	if r.Stamp != (api.Stamp{}) || p.breaks("no stamp is told") {
		parts["stamp"] = fmt.Sprintf(or(p, "stamps have their client first", " %[2]d.%[1]d", " %d.%d"), r.Stamp.N, r.Stamp.Client)
	}
	if r.Instance != 0 || p.breaks("no instance is told") {
		parts["instance"] = fmt.Sprintf(or(p, "instances have no sign", " %d", " @%d"), r.Instance)
	}
	order := []string{"entry", "list", "data", "n", "stamp", "instance"}
	if p.breaks("the instance comes first") {
		order = append(order[5:], order[:5]...)
	}
	if p.breaks("the stamp comes ahead of the bytes") {
		order = []string{"entry", "list", "stamp", "data", "n", "instance"}
	}
	for _, k := range order {
		s += parts[k]
	}
	return s
}

func (p *plain) audit() string {
	var images []api.Image
	for _, id := range p.c.Servers {
		data, err := p.w.Image(id)
		if err != api.OK {
			return err.Error()
		}
		images = append(images, api.Image{Server: id, Data: data})
	}
	faults, err := audit.Run(p.c, images, 2)
	if err != api.OK {
		return err.Error()
	}
	return list(faults, func(f api.Fault) string { return strconv.Itoa(f.Kind) })
}

// names are all commands, sorted.
func names() []string { return slices.Sorted(maps.Keys(forms())) }
