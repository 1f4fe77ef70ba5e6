package shell_test

import (
	"fmt"
	"strings"
	"testing"

	"cairn/shell"
)

func TestP2003Packets(t *testing.T) {
	t.Parallel()
	talk(t, small+" => ok", "under => ok",
		"create 1 a => ok", "under => ok c1.1>s3 c1.2>s2 c1.3>s1",
		"double c1 2 => ok", "under => ok c1.1>s3 c1.2>s2 c1.3>s1 c1.2>s2",
		"deliver c1 2 => ok", "under => ok c1.1>s3 c1.3>s1 c1.2>s2 s2.1>c1",
		"lose c1 1 => ok", "lose c1 1 => packet", "double c1 1 => packet", "deliver c1 1 => packet", "under => ok c1.3>s1 c1.2>s2 s2.1>c1",
		"lose c1 2 => ok", "lose c1 2 => packet", "under => ok c1.3>s1 s2.1>c1",
		"tick 1 => ok", "under => ok c1.3>s1 s2.1>c1 c1.4>s3 c1.5>s2 c1.6>s1",
		"deliver s2 1 => ok", "tick 1 => ok", "under => ok c1.3>s1 c1.4>s3 c1.5>s2 c1.6>s1 c1.7>s3 c1.8>s1", // s2 has answered
		"deliver c1 3 => ok", "deliver s1 1 => ok", "under => ok c1.4>s3 c1.5>s2 c1.6>s1 c1.7>s3 c1.8>s1 c1.9>s3 c1.10>s2 c1.11>s1",
		"tick 2 => ok", "create 2 b => ok", "under => ok c1.4>s3 c1.5>s2 c1.6>s1 c1.7>s3 c1.8>s1 c1.9>s3 c1.10>s2 c1.11>s1 c2.1>s1 c2.2>s3 c2.3>s2",
		"fair 1 9 => ok 1", "under => ok c1.15>s3 c1.16>s2 c1.17>s1", "result 2 => pending",
	)
}

// A client that stops sends no more; what it has sent is under way.
func TestP2003Stop(t *testing.T) {
	t.Parallel()
	talk(t, one+" => ok", "stop 2 => ok", "stop 2 => ok", "result 2 => none", "create 2 a => fallen", "fair 2 9 => ok 0",
		"create 1 a => ok", "stop 1 => ok", "tick 1 => ok", "under => ok c1.1>s7", "result 1 => pending", "deliver c1 1 => ok", "deliver s7 1 => ok", "under => ok", "fair 1 9 => ok -1", "result 1 => pending",
		"create 3 a => ok", "all => ok 5", `result 3 => ok ok "a" 3.1 0 @1`, "stop 3 => ok", `result 3 => ok ok "a" 3.1 0 @1`, "fair 3 9 => ok 0",
		"create 4 b => ok", "all => ok 7", "writeat 4 b 0 xyz => ok", "deliver c4 5 => ok", "stop 4 => ok", "result 4 => pending", "legal => ok 2",
	)
}

func TestP2003Falls(t *testing.T) {
	t.Parallel()
	talk(t, one+" => ok", "write 1 1.1 0 abcd => ok", "deliver c1 1 => ok", "deliver s7 1 => ok", "under => ok c1.2>s7",
		"fall 7 0 => ok", "deliver c1 2 => ok", `held 7 1.1 0 => ok 0.0 ""`, "under => ok", "tick 1 => ok", "all => ok 1", "start 7 => ok", `held 7 1.1 0 => ok 0.0 ""`,
		"tick 1 => ok", "fall 7 1 => ok", "all => ok 1", `held 7 1.1 0 => ok 0.0 ""`, "start 7 => ok", "start 7 => ok", `held 7 1.1 0 => ok 1.1 "abcd"`,
		"fall 7 9 => ok", "fall 7 0 => ok", "start 7 => ok", "tick 1 => ok", "all => ok 1", `held 7 1.1 0 => ok 0.0 ""`, "result 1 => pending", // one that is up is not started
		"fall 7 0 => ok", "trim 7 0 0 => ok", "trim 7 9 0 => ok", "mend 7 7 bucket 0 => ok", "mend 7 8 block 0.0 0 => ok", "trim 7 -1 0 => event", "trimmed 7 0 => ok 0",
		"start 7 => ok", "fair 1 9 => ok 1", "result 1 => ok ok 1.1", `held 7 1.1 0 => ok 1.1 "abcd"`, "trim 7 9 0 => bucket", "audit => ok", "legal => ok 1",
		// it falls at a trim, and at a mend
		"fall 7 0 => ok", "trim 7 0 0 => fallen", "start 7 => ok",
	)
	talk(t, small+" => ok", "fall 1 0 => ok", "mend 1 2 bucket 0 => fallen", "under => ok", "start 1 => ok", "mend 1 2 bucket 0 => ok", "under => ok s1.1>s2", "all => ok 2", "under => ok")
}

func TestP2003Quota(t *testing.T) {
	t.Parallel()
	talk(t, one+" => ok", "quota 7 0 => ok", "write 1 1.1 0 abcd => ok", "all => ok 3", "result 1 => pending", "fair 1 9 => ok -1", `held 7 1.1 0 => ok 0.0 ""`,
		"fall 7 0 => ok", "tick 1 => ok", "all => ok 1", "start 7 => ok", "fair 1 9 => ok -1", // it outlasts a fall
		"quota 7 1 => ok", "fair 1 9 => ok -1", "quota 7 2 => ok", "fair 1 9 => ok 1", `held 7 1.1 0 => ok 1.1 "abcd"`, // a block takes two sectors
		"write 1 1.1 1 efgh => ok", "fair 1 9 => ok -1", "quota 7 123456789012345 => ok", "fair 1 9 => ok 1", `held 7 1.1 1 => ok 1.1 "efgh"`,
	)
}

func TestP2003Trim(t *testing.T) {
	t.Parallel()
	talk(t, one+" => ok", "trimmed 7 0 => ok 0", "trim 7 0 9 => ok", "trimmed 7 0 => ok 0",
		"create 1 a => ok", "fair 1 9 => ok 2", "trim 7 0 9 => ok", "trimmed 7 0 => ok 0", "all => ok 1", "trim 7 0 0 => ok", "trimmed 7 0 => ok 0", // it is not known as decided, till it was told
		"trim 7 0 9 => ok", "trimmed 7 0 => ok 1", "create 1 b => ok", "all => ok 5", "remove 1 a => ok", "all => ok 5", "create 1 c => ok", "all => ok 5",
		"trim 7 0 3 => ok", "trimmed 7 0 => ok 3", "trim 7 0 2 => ok", "trimmed 7 0 => ok 3", "trim 7 0 999999999999999 => ok", "trimmed 7 0 => ok 4",
		"trimmed 7 1 => ok 0", "trimmed 7 -1 => ok 0", "trimmed 8 0 => ok 0", "trimmed -7 0 => ok 0", "trimmed 999999999999999 999999999999999 => ok 0",
		"list 2 0 => ok", "all => ok 7", `result 2 => ok ok "b" 1.2 0 "c" 1.4 0 @5`, "fall 7 0 => ok", "trim 7 0 9 => fallen", "trimmed 7 0 => ok 0", "start 7 => ok", "trimmed 7 0 => ok 4", "audit => ok",
	)
}

func TestP2003Mend(t *testing.T) {
	t.Parallel()
	talk(t, small+" => ok",
		"mend 3 3 block 1.1 0 => addr", "write 1 1.1 0 abcd => ok", "fair 1 9 => ok 2", "fall 3 0 => ok", "write 2 1.1 0 efgh => ok", "fair 2 9 => ok 2",
		`held 1 1.1 0 => ok 2.2 "efgh"`, `held 2 1.1 0 => ok 2.2 "efgh"`, `held 3 1.1 0 => ok 0.0 ""`, "start 3 => ok", `held 3 1.1 0 => ok 1.1 "abcd"`,
		"mend 1 3 block 1.1 0 => ok", "under => ok s1.7>s3", "all => ok 2", `held 3 1.1 0 => ok 1.1 "abcd"`, // it is the first one that is brought what is newer
		"mend 3 1 block 1.1 0 => ok", "all => ok 2", `held 3 1.1 0 => ok 2.2 "efgh"`, "mend 3 1 block 1.1 1 => ok", "all => ok 2", `held 3 1.1 1 => ok 0.0 ""`,
		// a bucket
		"fall 3 0 => ok", "create 1 a => ok", "fair 1 9 => ok 2", "all => ok 3", "remove 1 a => ok", "fair 1 9 => ok 2", "all => ok 3", "start 3 => ok",
		"bucket a => ok 0", "trim 3 0 9 => ok", "trimmed 3 0 => ok 0", "trim 1 0 1 => ok", "trimmed 1 0 => ok 1", "mend 3 1 bucket 1 => ok", "all => ok 2", "trim 3 0 9 => ok", "trimmed 3 0 => ok 0",
		"mend 3 1 bucket 0 => ok", "all => ok 4", "trimmed 3 0 => ok 1", "trim 3 0 9 => ok", "trimmed 3 0 => ok 2", "audit => ok",
	)
}

func TestP2003Fair(t *testing.T) {
	t.Parallel()
	talk(t, one+" => ok", "fair 1 0 => ok 0", "fair 1 -1 => arg", "fair 1 4096 => ok 0", "fair 1 4097 => arg", "fair 1 999999999999999 => arg", "fair 9 -1 => arg", "fair 9 0 => ok -1", "fair 9 4096 => ok -1",
		"create 1 a => ok", "fair 1 0 => ok -1", "under => ok c1.1>s7", "fair 1 4097 => arg", "fair 1 -1 => arg", "under => ok c1.1>s7", "fair 1 1 => ok -1", "under => ok c1.3>s7", "fair 1 1 => ok 1", "fair 1 1 => ok 0", "under => ok c1.5>s7",
		// of the others nothing is left under way
		"create 2 b => ok", "create 3 c => ok", "under => ok c1.5>s7 c2.1>s7 c3.1>s7", "fair 3 9 => ok 4", "under => ok c3.10>s7", "result 2 => pending",
	)
	// as many exchanges as there may be
	l := []string{"world 0 1 1 1 2 64 7 => ok", "create 1 a => ok", "fair 1 9 => ok 2", "setsize 1 a 1.1 9000 => ok", "fair 1 9 => ok 2", "readat 1 a 0 9000 => ok"}
	talk(t, append(l, "fair 1 4096 => ok -1", "fair 1 4096 => ok -1", "fair 1 4096 => ok 810", "legal => ok 9003")...) // 2 of the Lookup and one for each byte
}

func TestP2003All(t *testing.T) {
	t.Parallel()
	talk(t, one+" => ok", "all => ok 0", "create 1 a => ok", "create 2 b => ok", "all => ok 9", "all => ok 0", "result 1 => pending", `result 2 => ok ok "b" 2.1 0 @1`, // 1 was refused, and waits for a tick
		// to a server that is down, to a client that has fallen
		"read 3 1.1 0 => ok", "fall 7 0 => ok", "all => ok 1", "all => ok 0", "tick 3 => ok", "all => ok 1", "start 7 => ok", "tick 3 => ok", "deliver c3 3 => ok", "stop 3 => ok", "all => ok 1", "under => ok",
	)
	// the first one each time: what it brings stands behind what was there
	talk(t, one+" => ok", "write 1 1.1 0 a => ok", "write 2 1.1 0 b => ok", "double c1 1 => ok", "under => ok c1.1>s7 c2.1>s7 c1.1>s7", "all => ok 10", "result 1 => ok ok 1.1", "result 2 => ok ok 1.2", `held 7 1.1 0 => ok 1.2 "b\x00\x00\x00"`)
	// as many as there may be: two of each read, a part more or less of another
	l := []string{"world 0 1 1 1 2 64 7 => ok", "create 1 a => ok", "all => ok 5", "setsize 1 a 1.1 4096 => ok", "all => ok 5", "readat 1 a 0 4096 => ok"}
	talk(t, append(l, "all => ok 4096", "result 1 => pending", "all => ok 4096", "result 1 => pending", "under => ok s7.4100>c1", "all => ok 5", "legal => ok 4099")...)
	for size, left := range map[int]int{2045: 0, 2046: 1, 2047: 3} { // MPrepare, MPromise, MAccept, MAccepted, MLearned, then two of each part
		talk(t, "world 0 1 1 1 2 64 7 => ok", "create 1 a => ok", "all => ok 5", fmt.Sprintf("setsize 1 a 1.1 %d => ok", size), "all => ok 5", fmt.Sprintf("readat 1 a 0 %d => ok", size),
			fmt.Sprintf("all => ok %d", min(5+2*size, 4096)), fmt.Sprintf("all => ok %d", left))
	}
}

// More are under way at once than all delivers.
func TestP2003AllOfMany(t *testing.T) {
	t.Parallel()
	l := []string{"world 3 1 1 1 2 64 1 2 3 4 5 6 7"}
	for c := 1; c <= 8; c++ {
		l = append(l, fmt.Sprintf("read %d 1.%d 0", c, c))
	}
	for n := range 8 * 63 {
		if len(l) == 502 {
			break
		}
		l = append(l, fmt.Sprintf("tick %d", n%8+1))
	}
	a := run(t, append(l, "under", "all", "all", "all", "under")...)
	if n := len(words("%s", a[len(l)])) - 1; n != 7*501 {
		t.Error("under way:", n)
	}
	if s := strings.Join(a[len(l)+1:], ", "); s != "ok 4096, ok 2918, ok 0, ok" {
		t.Error(s)
	}
}

func TestP2003Result(t *testing.T) {
	t.Parallel()
	talk(t, one+" => ok", "result 1 => none", "create 1 a => ok", "result 1 => pending", "result 2 => none", "all => ok 5", `result 1 => ok ok "a" 1.1 0 @1`, "result 2 => none",
		"create 1 \"\" => name", `result 1 => ok ok "a" 1.1 0 @1`, // what is refused at once stands in no history
		"writeat 1 a 1 xy => ok", "deliver c1 4 => ok", "deliver s7 3 => ok", "result 1 => pending", "fair 1 1 => ok -1", "result 1 => pending", // its Lookup has returned
		"fair 1 99 => ok 5", `result 1 => ok ok "a" 1.1 3 2`,
		"lookup 2 a => ok", "result 2 => pending", `result 1 => ok ok "a" 1.1 3 2`, "fair 2 99 => ok 7", `result 2 => ok ok "a" 1.1 3 @4`, `result 1 => ok ok "a" 1.1 3 2`,
		"read 1 1.1 0 => ok", "fair 1 9 => ok 1", `result 1 => ok ok "\x00xy\x00" 1.1`, "truncate 1 b 1 => ok", "fair 1 9 => ok 5", "result 1 => ok notfound",
		"stop 1 => ok", "result 1 => ok notfound", "copy 2 a b => ok", "stop 2 => ok", "result 2 => pending",
	)
}

func TestP2003GroupAndBucket(t *testing.T) {
	t.Parallel()
	talk(t, "world 1 2 4 8 2 400 30 10 20 => ok", "group 7.12 3 => ok 20 30 10", "group 0.1 0 => key", `bucket plum => ok 3`, `bucket "" => ok 1`, "group 7.12 -3 => key",
		"world 0 2 4 8 2 400 30 10 20 => ok", "group 7.12 3 => ok 20")
	for _, text := range []string{"a/b", `"\x00"`, strings.Repeat("n", 300), `"a b"`, "\xff", `"#"`, `"\""`} {
		talk(t, "world 0 2 1 8 2 400 30 => ok", "bucket "+text+" => ok 0")
		if a, b := last(t, "world 0 2 256 8 2 400 30", "bucket "+text), last(t, "world 0 9 256 1 3 40 3 4", "bucket "+text); a != b {
			t.Errorf("%s: %s, %s", text, a, b)
		}
	}
}

// Answers with as many bytes as there may be, and more; what was done stays done.
func TestP2003LongAnswers(t *testing.T) {
	t.Parallel()
	for n, want := range map[int]int{10: 131071, 11: 131072, 12: 4, 13: 4} {
		name := strings.Repeat("n", n)
		a := answers(t, shell.Run(full(name)))
		if got := a[7]; len(got) != want || want == 4 && got != "long" || want > 4 && got != fmt.Sprintf(`ok ok "%s" 1.1 32760 "%s"`, name, strings.Repeat(`\x00`, 32760)) {
			t.Errorf("%d: %d bytes: %s", n, len(got), cut(got))
		}
		if got := a[10]; got != fmt.Sprintf(`ok ok "%s" 1.1 32760 @4`, name) {
			t.Errorf("%d: %s", n, cut(got))
		}
	}
}

// The other answers that may be too long.
func TestP2003LongLists(t *testing.T) {
	t.Parallel()
	l := []string{"world 0 1 1 1 256 4096 7"}
	for n := range 128 {
		l = append(l, fmt.Sprintf(`create 1 "%s%03d"`, strings.Repeat("\x01", 252), n), "all")
	}
	l = append(l, "list 1 0", "all", "result 1")
	short := run(t, l...)
	l = append(l[:len(l)-3], fmt.Sprintf(`create 1 "%s"`, strings.Repeat("\x01", 255)), "all", "list 1 0", "all", "result 1", "create 1 a", "all", "result 1")
	long := run(t, l...)
	if got := short[len(short)-1]; len(got) < 128000 || !strings.HasPrefix(got, `ok ok "\x01`) || !strings.HasSuffix(got, " 1.128 0 @129") {
		t.Errorf("%d bytes: %s", len(got), cut(got))
	}
	if got := long[len(long)-4:]; got[0] != "long" || got[1] != "ok" || got[3] != `ok ok "a" 1.131 0 @131` {
		t.Errorf("%q, %q", cut(got[0]), got[1:])
	}
}
