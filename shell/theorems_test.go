package shell_test

import (
	"fmt"
	"slices"
	"strings"
	"testing"
)

// play draws what happens in one world, of which the script's first line is; no line of these commands.
func (r lot) play(world string, n int, without ...string) []string {
	p := &plain{}
	l := []string{world}
	p.line(world)
	for len(l) < n {
		for _, line := range r.lines(p) {
			command, _, _ := strings.Cut(line, " ")
			if forms()[command] == nil || command == "world" || slices.Contains(without, command) {
				continue
			}
			p.line(line)
			l = append(l, line)
		}
	}
	return l
}

// stage is a world's line, and what it is made of.
type stage struct {
	line    string
	servers []int
	f       int
	buckets int
	block   int
}

func stages() []stage {
	return []stage{
		{"world 1 2 2 3 2 900 3 1 2", []int{3, 1, 2}, 1, 2, 3},
		{"world 0 1 1 2 2 900 7", []int{7}, 0, 1, 2},
		{"world 1 3 1 1 3 900 1 2 3 4 5", []int{1, 2, 3, 4, 5}, 1, 1, 1},
		{"world 2 1 3 3 2 900 5 4 3 2 1", []int{5, 4, 3, 2, 1}, 2, 3, 3},
		{"world 0 2 2 1 2 900 1 2", []int{1, 2}, 0, 2, 1},
	}
}

// eachSeed plays so many seeds of each stage, at the same time.
func eachSeed(t *testing.T, seeds int64, do func(t *testing.T, r lot, s stage)) {
	for i, s := range stages() {
		t.Run(s.line, func(t *testing.T) {
			t.Parallel()
			for seed := range seeds {
				do(t, newLot(int64(i)*100000+seed), s)
				if t.Failed() {
					t.Fatal("seed", seed)
				}
			}
		})
	}
}

// Whatever happens, there is an order of what took place in which the store answers so; and no disk has a fault. (T7 and T8 with it: there are trims and mends.)
func TestT1Linearizable(t *testing.T) {
	t.Parallel()
	eachSeed(t, 80, func(t *testing.T, r lot, s stage) {
		l := r.play(s.line, 20+r.Intn(200))
		moment := 1 + r.Intn(len(l))
		asks := []string{"witness", "legal", "audit"}
		a := run(t, slices.Concat(l[:moment], asks, l[moment:], asks)...)
		for _, told := range [][]string{a[moment : moment+3], a[len(a)-3:]} {
			places := strings.Fields(told[0])
			if places[0] != "ok" || told[1] != fmt.Sprintf("ok %d", len(places)-1) || told[2] != "ok" {
				t.Errorf("%q", told)
			}
		}
	})
}

// What a server holds outlasts falls: if it falls between any two steps, and is started again, no other line is answered otherwise.
func TestT2Durable(t *testing.T) {
	t.Parallel()
	eachSeed(t, 40, func(t *testing.T, r lot, s stage) {
		l := r.play(s.line, 20+r.Intn(150), "fall", "quota")
		var with []string
		var own []int // places of the lines that are in both
		for i, line := range l {
			own = append(own, len(with))
			with = append(with, line)
			if i > 0 && r.Intn(3) == 0 && len(with) < 500 {
				id := oneOf(r, s.servers...)
				with = append(with, fmt.Sprintf("fall %d 0", id), fmt.Sprintf("trim %d 0 0", id), fmt.Sprintf("start %d", id))
			}
		}
		a, b := run(t, l...), run(t, with...)
		for i, place := range own {
			if a[i] != b[place] {
				t.Errorf("%s: %s, not %s", l[i], b[place], a[i])
			}
		}
		if slices.Contains(b, "fallen") != (len(with) > len(l)) && !slices.ContainsFunc(l, func(x string) bool { return strings.HasPrefix(x, "stop") }) {
			t.Error("nothing has fallen")
		}
	})
}

// Whatever has happened, with all servers up an operation returns as soon as it must.
func TestT3Alive(t *testing.T) {
	t.Parallel()
	eachSeed(t, 40, func(t *testing.T, r lot, s stage) {
		l := r.play(s.line, 20+r.Intn(150), "quota")
		for _, id := range s.servers { // none is armed any more
			l = append(l, fmt.Sprintf("fall %d 0", id), fmt.Sprintf("trim %d 0 0", id), fmt.Sprintf("start %d", id))
		}
		n := len(l)
		l = append(l, "read 4 1.1 0", "fair 4 2", "write 5 1.1 0 x", "fair 5 2", "lookup 6 a", "fair 6 4096", "result 6", "create 7 a", "fair 7 4096", "result 7", "list 4 0", "fair 4 4096", "result 4")
		a := run(t, l...)[n:]
		number := func(s string) int {
			k := 0
			if _, err := fmt.Sscanf(s, "ok %d", &k); err != nil {
				t.Errorf("%s: %v", s, err)
			}
			return k
		}
		if k := number(a[1]); k < 1 {
			t.Errorf("a read: %d", k)
		}
		if k := number(a[3]); k < 1 {
			t.Errorf("a write: %d", k)
		}
		if k, decided := number(a[11]), instance(a[12])-1; k < 1 || k > 2*(decided+1)+2+decided+2 {
			t.Errorf("a list: %d exchanges, %d decided", k, decided)
		}
	})
}

// instance is the one that a result tells, its last word.
func instance(result string) int {
	n := 0
	fmt.Sscanf(result[strings.LastIndex(result, " ")+1:], "@%d", &n)
	return n
}

// store is names to bytes: all that T4's answers may hang on.
type store map[string][]byte

// do is what an operation does there: its answer's word, the size of its entry, and what is told of bytes.
func (m store) do(o []string, at, n int, data string) (string, int, string) {
	name := o[2]
	b, there := m[name]
	switch {
	case o[0] == "create" && there:
		return "exists", 0, ""
	case o[0] == "create":
		m[name] = nil
		return "ok", 0, ""
	case !there:
		return "notfound", 0, ""
	}
	switch o[0] {
	case "remove":
		delete(m, name)
		return "ok", len(b), ""
	case "readat":
		end := min(at+n, len(b))
		return "ok", len(b), string(b[min(at, end):end])
	case "writeat":
		for len(data) > 0 && len(b) < at+len(data) {
			b = append(b, 0)
		}
		copy(b[min(at, len(b)):], data)
	case "truncate":
		for len(b) < n {
			b = append(b, 0)
		}
		b = b[:n]
	case "copy":
		if _, taken := m[o[3]]; taken {
			return "exists", 0, ""
		}
		m[o[3]] = slices.Clone(b)
		return "ok", len(b), ""
	}
	m[name] = slices.Clip(b)
	return "ok", len(m[name]), ""
}

// One by one, with at most F servers of all down at a time: the answers are those of names to bytes.
func TestT4OneByOne(t *testing.T) {
	t.Parallel()
	eachSeed(t, 40, func(t *testing.T, r lot, s stage) {
		world := strings.Fields(s.line)
		world[5] = "9" // room for all names
		l, want, m := []string{strings.Join(world, " ")}, []string{""}, store{}
		for len(l) < 200 {
			c := 1 + r.Intn(4)
			name := func() string { return oneOf(r, "a", "b", "c") }
			at, n, data := r.Intn(4*s.block), r.Intn(5*s.block), string(r.bytes(r.Intn(3*s.block)))
			o := oneOf(r, words("create %d %s", c, name()), words("remove %d %s", c, name()), words("lookup %d %s", c, name()), words("lookup %d %s", c, name()), words("readat %d %s %d %d", c, name(), at, n),
				words("readat %d %s %d %d", c, name(), 0, 99), words("writeat %d %s %d", c, name(), at), words("writeat %d %s %d", c, name(), at), words("truncate %d %s %d", c, name(), n), words("copy %d %s %s", c, name(), name()))
			if o[0] == "readat" {
				fmt.Sscan(o[3]+" "+o[4], &at, &n)
			}
			line := strings.Join(o, " ")
			if o[0] == "writeat" {
				line += " " + r.quoted(data)
			}
			word, size, told := m.do(o, at, n, data)
			answer := "ok " + word
			if word == "ok" {
				answer += fmt.Sprintf(" %d", size)
				if told != "" {
					answer += " " + (&plain{}).quote([]byte(told))
				}
				if o[0] == "writeat" && data != "" {
					answer += fmt.Sprintf(" %d", len(data))
				}
			}
			down, extra := r.Perm(len(s.servers))[:s.f], oneOf(r, "all", "under", fmt.Sprintf("trim %d %d 99", oneOf(r, s.servers...), r.Intn(s.buckets)))
			for _, i := range down {
				l, want = append(l, fmt.Sprintf("fall %d %d", s.servers[i], r.Intn(3))), append(want, "")
			}
			l, want = append(l, line, fmt.Sprintf("fair %d 4096", c), fmt.Sprintf("result %d", c)), append(want, "", "", answer)
			for _, i := range down {
				l, want = append(l, fmt.Sprintf("trim %d 0 0", s.servers[i]), fmt.Sprintf("start %d", s.servers[i])), append(want, "", "")
			}
			l, want = append(l, extra), append(want, "")
		}
		got := run(t, append(l, "legal", "audit")...)
		for i, w := range want {
			if w != "" && bare(got[i]) != w {
				t.Fatalf("%s: %s, not %s", l[i-2], got[i], w)
			}
		}
	})
}

// bare is a result without what T4 leaves open: the name and its file, and the instance.
func bare(result string) string {
	l := strings.Fields(result)
	if len(l) < 5 || !strings.HasPrefix(l[2], `"`) {
		return result
	}
	l = slices.Delete(l, 2, 4)
	if strings.HasPrefix(l[len(l)-1], "@") {
		l = l[:len(l)-1]
	}
	_, data, there := strings.Cut(result, ` "`)
	if _, data, there = strings.Cut(data, ` "`); there { // bytes may have blanks
		return strings.Join(l[:3], " ") + ` "` + data
	}
	return strings.Join(l, " ")
}

// Groups are unlike servers; one server more stands in a group, or leaves it as it was; a greater F has the lesser one's group as its front.
func TestT6Ring(t *testing.T) {
	t.Parallel()
	ids := []string{"9", "200", "3", "77", "41", "5", "255", "6"}
	groups := func(f, n int) [][]string {
		l := []string{fmt.Sprintf("world %d 4 2 4 8 64 %s", f, strings.Join(ids[:n], " "))}
		for k := range 60 {
			l = append(l, fmt.Sprintf("group %d.%d %d", 1+k%5, 1+k, k%7))
		}
		var all [][]string
		for _, a := range run(t, l...)[1:] {
			g := strings.Fields(a)[1:]
			sorted := slices.Sorted(slices.Values(g))
			if len(slices.Compact(sorted)) != 2*f+1 {
				t.Fatalf("%q", a)
			}
			all = append(all, g)
		}
		return all
	}
	took := 0
	for f := range 3 {
		for n := 2*f + 1; n < len(ids); n++ {
			before, after := groups(f, n), groups(f, n+1)
			for i, g := range after {
				if k := slices.Index(g, ids[n]); k >= 0 {
					g, took = slices.Delete(slices.Clone(g), k, k+1), took+1
				}
				if !slices.Equal(g, before[i][:len(g)]) {
					t.Fatalf("%d servers, F %d: %v, %v", n, f, before[i], after[i])
				}
			}
			if n+1 >= 2*(f+1)+1 {
				for i, g := range groups(f+1, n+1) {
					if !slices.Equal(g[:2*f+1], after[i]) {
						t.Fatalf("%d servers, F %d: %v, %v", n, f, g, after[i])
					}
				}
			}
		}
	}
	if took < 100 {
		t.Error("too few to tell:", took)
	}
}

// With trims anywhere the results are the same, one by one.
func TestT7Trimmed(t *testing.T) {
	t.Parallel()
	eachSeed(t, 12, func(t *testing.T, r lot, s stage) {
		var plainly, trimmed []string
		both := func(line string) { plainly, trimmed = append(plainly, line), append(trimmed, line) }
		world := strings.Replace(s.line, " 900 ", " 9000 ", 1) // trims make room: without them there must be enough
		both(world)
		p := &plain{}
		p.line(world)
		for len(trimmed) < 300 {
			c := 1 + r.Intn(3)
			for _, line := range []string{r.invocation(p, fmt.Sprint(c)), fmt.Sprintf("fair %d 4096", c), "all"} {
				p.line(line)
				both(line)
			}
			for range r.Intn(3) {
				trimmed = append(trimmed, fmt.Sprintf("trim %d %d %d", oneOf(r, s.servers...), r.Intn(s.buckets), oneOf(r, 1, 5, 999)))
			}
			both(fmt.Sprintf("result %d", c))
		}
		both("audit")
		a, b := results(plainly, run(t, plainly...)), results(trimmed, run(t, trimmed...))
		for i := range a {
			if a[i] != b[i] {
				t.Fatalf("result %d: %s, not %s", i, b[i], a[i])
			}
		}
		if len(a) < 30 {
			t.Error("too few to tell:", len(a))
		}
	})
}

// results are the answers of result alone, and of audit.
func results(lines, answers []string) []string {
	var l []string
	for i, line := range lines {
		if strings.HasPrefix(line, "result") || line == "audit" {
			l = append(l, answers[i])
		}
	}
	return l
}

// Behind a mend of every ordered pair all servers of a group hold the same.
func TestT8Mended(t *testing.T) {
	t.Parallel()
	eachSeed(t, 40, func(t *testing.T, r lot, s stage) {
		l := r.play(s.line, 20+r.Intn(100), "quota")
		for _, id := range s.servers {
			l = append(l, fmt.Sprintf("fall %d 0", id), fmt.Sprintf("trim %d 0 0", id), fmt.Sprintf("start %d", id))
		}
		l = append(l, "all", "all")
		for _, key := range []string{"block 1.1 0", "block 2.1 1", "bucket 0"} {
			for _, a := range s.servers {
				for _, b := range s.servers {
					if a != b {
						l = append(l, fmt.Sprintf("mend %d %d %s", a, b, key), "all")
					}
				}
			}
		}
		n := len(l)
		for _, key := range []string{"1.1 0", "2.1 1"} {
			l = append(l, "group "+key)
			for _, id := range s.servers {
				l = append(l, fmt.Sprintf("held %d %s", id, key))
			}
		}
		for _, id := range s.servers {
			l = append(l, fmt.Sprintf("trim %d 0 999", id), fmt.Sprintf("trimmed %d 0", id))
		}
		a := run(t, append(l, "audit", "legal")...)[n:]
		k := len(s.servers)
		for _, told := range [][]string{a[:1+k], a[1+k : 2+2*k]} {
			var held []string
			for i, id := range s.servers {
				if slices.Contains(strings.Fields(told[0])[1:], fmt.Sprint(id)) {
					held = append(held, told[1+i])
				}
			}
			if len(slices.Compact(held)) != 1 {
				t.Errorf("%q", told)
			}
		}
		var upto []string
		for i := range s.servers {
			if u := a[2+2*k+2*i+1]; len(s.servers) == 2*s.f+1 { // all stand in the bucket's group
				upto = append(upto, u)
			}
		}
		if len(slices.Compact(upto)) > 1 {
			t.Errorf("%q", upto)
		}
	})
}

// machineOf is whose event a line is: a client's or a server's; "": another's, or none.
func machineOf(line string) string {
	f := append(strings.Fields(line), "") // a number may be missing
	switch f[0] {
	case "create", "remove", "lookup", "list", "setsize", "grow", "replace", "read", "write", "readat", "writeat", "truncate", "copy", "tick", "stop":
		return "client " + strings.TrimLeft(f[1], "0")
	case "fall", "start", "trim", "mend":
		return "server " + strings.TrimLeft(f[1], "0")
	}
	return ""
}

// Two neighbouring events of unlike machines may change places: what there is to see is the same, but for the order of what is under way.
func TestT10Same(t *testing.T) {
	t.Parallel()
	eachSeed(t, 40, func(t *testing.T, r lot, s stage) {
		l := r.play(s.line, 20+r.Intn(100), "all", "under", "quota", "history", "witness")
		var asks []string
		for c := 1; c <= 3; c++ {
			asks = append(asks, fmt.Sprintf("result %d", c))
		}
		for _, id := range s.servers {
			asks = append(asks, fmt.Sprintf("held %d 1.1 0", id), fmt.Sprintf("held %d 2.1 1", id), fmt.Sprintf("trimmed %d 0", id))
		}
		asks = append(asks, "history", "legal", "audit", "under")
		first := run(t, append(slices.Clone(l), asks...)...)
		for i := 1; i+1 < len(l); i++ {
			a, b := machineOf(l[i]), machineOf(l[i+1])
			if a == "" || b == "" || a == b {
				continue
			}
			swapped := append(slices.Clone(l), asks...)
			swapped[i], swapped[i+1] = l[i+1], l[i]
			got := run(t, swapped...)
			got[i], got[i+1] = got[i+1], got[i]
			n := len(got) - 1
			x, y := strings.Fields(first[n]), strings.Fields(got[n])
			slices.Sort(x)
			slices.Sort(y)
			if !slices.Equal(got[:n], first[:n]) || !slices.Equal(x, y) {
				t.Errorf("%s and %s: %s", l[i], l[i+1], unlike(lines(swapped...), lines(got...), lines(first...)))
			}
			i += 1 + r.Intn(6)
		}
	})
}
