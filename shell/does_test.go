package shell_test

import (
	"fmt"
	"slices"
	"strings"
	"testing"
)

// one has a single server, whose id is 7.
const one = "world 0 1 1 4 3 512 7"

func TestP2003World(t *testing.T) {
	t.Parallel()
	talk(t,
		"world 1 4 2 4 8 4096 1 2 => config", "under => none",
		"world 0 1 1 1 1 1 255 => ok", "under => ok",
		"world 3 64 256 4096 256 65 1 2 3 4 5 6 7 => ok",
		small+" => ok", `create 1 "a" => ok`, "fair 1 9 => ok 2", "under => ok c1.13>s3 c1.14>s2 c1.15>s1",
		// each number that may not be, and the elder one stays
		"world 1 4 2 4 8 4096 1 2 2 => config", "world 1 4 2 4 8 4096 0 1 2 => config", "world 1 4 2 4 8 4096 256 1 2 => config", "world 1 4 2 4 8 4096 -1 1 2 => config",
		"world -1 4 2 4 8 4096 1 2 3 => config", "world 4 4 2 4 8 4096 1 2 3 4 5 6 7 8 9 => config", "world 2 4 2 4 8 4096 1 2 3 4 => config",
		"world 1 0 2 4 8 4096 1 2 3 => config", "world 1 65 2 4 8 4096 1 2 3 => config", "world 1 4 0 4 8 4096 1 2 3 => config", "world 1 4 257 4 8 4096 1 2 3 => config",
		"world 1 4 2 0 8 4096 1 2 3 => config", "world 1 4 2 4097 8 4096 1 2 3 => config", "world 1 4 2 4 0 4096 1 2 3 => config", "world 1 4 2 4 257 4096 1 2 3 => config",
		"world 1 4 2 4 8 0 1 2 3 => sectors", "world 1 4 2 4 8 -1 1 2 3 => sectors", "world 1 4 2 4 8 65537 1 2 3 => sectors", "world 1 0 2 4 8 0 1 2 3 => config",
		"world 123456789012345 4 2 4 8 4096 1 2 3 => config", "world 1 4 2 4 8 123456789012345 1 2 3 => sectors",
		`result 1 => ok ok "a" 1.1 0 @1`, "under => ok c1.13>s3 c1.14>s2 c1.15>s1", "history => ok 3",
		// a new one has nothing of the elder one
		small+" => ok", "result 1 => none", "under => ok", "history => ok 0", "held 1 1.1 0 => ok 0.0 \"\"", "create 1 \"a\" => ok", "under => ok c1.1>s3 c1.2>s2 c1.3>s1",
		"world 0 1 1 1 1 1 255 => ok", "start 1 => addr", "start 255 => ok", "group 1.1 0 => ok 255",
	)
}

// As many servers as there may be, and one more.
func TestP2003ManyServers(t *testing.T) {
	t.Parallel()
	var ids []string
	for id := 1; id <= 65; id++ {
		ids = append(ids, fmt.Sprint(id))
	}
	talk(t, "world 3 2 9 9 9 64 "+strings.Join(ids[:64], " ")+" => ok", "start 64 => ok", "start 65 => addr", "world 3 2 9 9 9 64 "+strings.Join(ids, " ")+" => config", "start 64 => ok")
	// and the order in which they stand changes nothing
	a := run(t, "world 1 3 2 4 2 512 1 2 3 4 5", "create 1 a", "under", "group 1.1 0", "fair 1 9", "result 1", "group 2.9 7")
	b := run(t, "world 1 3 2 4 2 512 4 2 5 3 1", "create 1 a", "under", "group 1.1 0", "fair 1 9", "result 1", "group 2.9 7")
	if !slices.Equal(a, b) {
		t.Errorf("%v, %v", a, b)
	}
}

// The clients are 1 to 8.
func TestP2003Clients(t *testing.T) {
	t.Parallel()
	l := []string{"world 0 1 1 4 9 512 7 => ok"}
	for c := 1; c <= 8; c++ { // each learns what those ahead have had decided, in one exchange each, since the server was told
		l = append(l, fmt.Sprintf("create %d n%d => ok", c, c), fmt.Sprintf("all => ok %d", 5+2*(c-1)), fmt.Sprintf(`result %d => ok ok "n%d" %d.1 0 @%d`, c, c, c, c))
	}
	talk(t, append(l, "create 0 a => addr", "create 9 a => addr", "create -1 a => addr", "tick 0 => addr", "stop 9 => addr", "tick 8 => ok", "stop 1 => ok",
		"fair 0 9 => ok -1", "fair 9 9 => ok -1", "fair 9 0 => ok -1", "fair 9 4097 => arg", "result 0 => none", "result 9 => none", "result -1 => none")...)
}

func TestP2003Directory(t *testing.T) {
	t.Parallel()
	talk(t, "world 0 1 1 4 2 512 7 => ok",
		"lookup 1 a => ok", "all => ok 5", "result 1 => ok notfound",
		"create 1 a => ok", "all => ok 5", `result 1 => ok ok "a" 1.2 0 @2`,
		"create 1 a => ok", "all => ok 5", "result 1 => ok exists",
		"list 1 0 => ok", "all => ok 5", `result 1 => ok ok "a" 1.2 0 @4`,
		"create 1 b => ok", "all => ok 5", `result 1 => ok ok "b" 1.5 0 @5`,
		"create 1 c => ok", "all => ok 5", "result 1 => ok room",
		"setsize 1 a 1.2 9 => ok", "all => ok 5", `result 1 => ok ok "a" 1.2 9 @7`,
		"setsize 1 a 1.5 9 => ok", "all => ok 5", "result 1 => ok stale",
		"setsize 1 a 1.2 5 => ok", "all => ok 5", `result 1 => ok ok "a" 1.2 5 @9`,
		"grow 1 a 1.2 3 => ok", "all => ok 5", `result 1 => ok ok "a" 1.2 5 @10`,
		"grow 1 a 1.2 6 => ok", "all => ok 5", `result 1 => ok ok "a" 1.2 6 @11`,
		"replace 1 b 1.5 8.77 12 => ok", "all => ok 5", `result 1 => ok ok "b" 8.77 12 @12`,
		"list 1 0 => ok", "all => ok 5", `result 1 => ok ok "a" 1.2 6 "b" 8.77 12 @13`,
		"remove 1 a => ok", "all => ok 5", `result 1 => ok ok "a" 1.2 6 @14`,
		"lookup 1 b => ok", "all => ok 5", `result 1 => ok ok "b" 8.77 12 @15`,
		"remove 1 b => ok", "all => ok 5", `result 1 => ok ok "b" 8.77 12 @16`,
		"list 1 0 => ok", "all => ok 5", "result 1 => ok ok @17",
		"history => ok 51", "witness => ok 0 3 6 9 12 15 18 21 24 27 30 33 36 39 42 45 48", "legal => ok 17", "audit => ok",
	)
}

// What Do refuses, with its error's word.
func TestP2003Refused(t *testing.T) {
	t.Parallel()
	long := strings.Repeat("n", 256)
	l := []string{one + " => ok"}
	for _, name := range []string{`""`, "a/b", `"a\x00"`, long} {
		l = append(l, all("name", "create 1 "+name, "remove 1 "+name, "lookup 1 "+name, "setsize 1 "+name+" 1.1 0", "grow 1 "+name+" 1.1 0", "replace 1 "+name+" 1.1 1.2 0",
			"readat 1 "+name+" 0 0", "writeat 1 "+name+" 0 x", "truncate 1 "+name+" 0", "copy 1 "+name+" a", "copy 1 a "+name)...)
	}
	for _, f := range []string{"0.0", "0.1", "1.0", "256.1", "1.1099511627777"} {
		l = append(l, all("arg", "setsize 1 a "+f+" 0", "grow 1 a "+f+" 0", "replace 1 a "+f+" 1.1 0", "replace 1 a 1.1 "+f+" 0", "read 1 "+f+" 0", "write 1 "+f+" 0 x")...)
	}
	for _, n := range []string{"-1", "4194305", "999999999999999"} {
		l = append(l, all("size", "setsize 1 a 1.1 "+n, "grow 1 a 1.1 "+n, "replace 1 a 1.1 1.2 "+n, "readat 1 a "+n+" 0", "readat 1 a 0 "+n, "writeat 1 a "+n+" x", "truncate 1 a "+n)...)
	}
	l = append(l, all("index", "read 1 1.1 -1", "read 1 1.1 1048576", "write 1 1.1 -1 x", "write 1 1.1 1048576 x")...)
	l = append(l, all("bucket", "list 1 -1", "list 1 1", "trim 7 1 0")...)
	l = append(l, all("block", "write 1 1.1 0 abcde", "write 1 1.1 0 "+long)...)
	l = append(l, all("addr", "create 9 a", "tick 9", "stop 0", "fall 8 0", "start 8", "quota 8 0", "trim 8 0 0", "mend 8 7 bucket 0", "mend 7 8 bucket 0", "mend 7 7 bucket 0", "mend 7 0 block 1.1 0", "start -7")...)
	l = append(l, all("event", "deliver s7 -1", "lose c1 -1", "double s999 -1", "fall 7 -1", "quota 7 -1", "trim 7 -1 0", "trim 7 0 -1", "trim 99 -1 0", "fall 99 -1")...)
	l = append(l, all("packet", "deliver s7 0", "deliver s7 1", "lose c1 1", "double c8 1", "deliver s999 1", "lose c0 123456789012345")...)
	l = append(l, all("ok", "under", "create 1 a")...)
	l = append(l, "history => ok 1")
	l = append(l, all("busy", "create 1 b", "remove 1 a", "lookup 1 a", "list 1 0", "setsize 1 a 1.1 1", "grow 1 a 1.1 1", "replace 1 a 1.1 1.2 1", "read 1 1.1 0", "write 1 1.1 0 x", "readat 1 a 0 1", "writeat 1 a 0 x", "truncate 1 a 1", "copy 1 a b", `create 1 ""`, "write 1 0.0 0 abcde")...)
	l = append(l, "stop 1 => ok")
	l = append(l, all("fallen", "create 1 b", "remove 1 a", "lookup 1 a", "list 1 0", "setsize 1 a 1.1 1", "grow 1 a 1.1 1", "replace 1 a 1.1 1.2 1", "read 1 1.1 0", "write 1 1.1 0 x", "readat 1 a 0 1", "writeat 1 a 0 x", "truncate 1 a 1", "copy 1 a b", `create 1 ""`)...)
	l = append(l, "history => ok 1", "result 1 => pending")
	talk(t, l...)
	talk(t, small+" => ok", "mend 1 2 block 0.1 0 => key", "mend 1 2 block 1.1 -1 => key", "mend 1 2 block 1.1 1048576 => key", "mend 1 2 bucket 2 => key", "mend 1 2 bucket -1 => key", "mend 1 2 bucket 1 => ok", "mend 1 4 bucket 9 => addr")
}

func TestP2003Blocks(t *testing.T) {
	t.Parallel()
	talk(t, one+" => ok",
		"read 1 3.9 1048575 => ok", "all => ok 2", `result 1 => ok ok "\x00\x00\x00\x00"`,
		"write 1 3.9 0 x => ok", "all => ok 4", "result 1 => ok ok 1.1", `held 7 3.9 0 => ok 1.1 "x\x00\x00\x00"`,
		`write 2 3.9 0 "" => ok`, "all => ok 4", "result 2 => ok ok 2.2", `held 7 3.9 0 => ok 2.2 "\x00\x00\x00\x00"`,
		`write 2 3.9 0 "a\x00\" " => ok`, "all => ok 4", "result 2 => ok ok 3.2", `held 7 3.9 0 => ok 3.2 "a\x00\" "`,
		"write 2 3.9 0 abcd => ok", "all => ok 4", `held 7 3.9 0 => ok 4.2 "abcd"`,
		"write 2 3.9 0 abcde => block", "write 2 3.9 0 abc#e => block", "write 2 3.9 0 ab#d => ok", "all => ok 4",
		"read 1 3.9 0 => ok", "all => ok 2", `result 1 => ok ok "ab#d" 5.2`,
		"write 1 3.9 1 \xff\xc3 => ok", "all => ok 4", `held 7 3.9 1 => ok 1.1 "\xff\xc3\x00\x00"`,
		`held 7 3.9 2 => ok 0.0 ""`, `held 7 3.8 0 => ok 0.0 ""`, `held 6 3.9 0 => ok 0.0 ""`, `held -7 3.9 0 => ok 0.0 ""`, `held 7 0.0 0 => ok 0.0 ""`, `held 7 3.9 -1 => ok 0.0 ""`, `held 7 3.9 999999999 => ok 0.0 ""`,
	)
}

func TestP2003Composite(t *testing.T) {
	t.Parallel()
	talk(t, one+" => ok",
		"create 1 oar => ok", "all => ok 5",
		"readat 1 oar 0 9 => ok", "result 1 => pending", "all => ok 5", `result 1 => ok ok "oar" 1.1 0`,
		`writeat 1 oar 0 "" => ok`, "all => ok 5", `result 1 => ok ok "oar" 1.1 0`,
		"writeat 1 oar 5 9999 => ok", "fair 1 2 => ok -1", "result 1 => pending", "fair 1 99 => ok 8", `result 1 => ok ok "oar" 1.1 9 4`, // ORead 1, OWrite 2, twice; OGrow 2
		"readat 1 oar 3 4 => ok", "all => ok 10", `result 1 => ok ok "oar" 1.1 9 "\x00\x0099"`, // MLearned of the OGrow; Lookup 4; two reads
		"readat 1 oar 8 100 => ok", "fair 1 99 => ok 3", `result 1 => ok ok "oar" 1.1 9 "9"`,
		"readat 1 oar 9 100 => ok", "fair 1 99 => ok 2", `result 1 => ok ok "oar" 1.1 9`,
		"truncate 1 oar 6 => ok", "fair 1 99 => ok 9", `result 1 => ok ok "oar" 1.1 6`,
		"truncate 1 oar 6 => ok", "fair 1 99 => ok 2", `result 1 => ok ok "oar" 1.1 6`,
		"copy 1 oar peg => ok", "fair 1 99 => ok 12", `result 1 => ok ok "peg" 1.23 6`,
		"readat 1 peg 0 6 => ok", "fair 1 99 => ok 4", `result 1 => ok ok "peg" 1.23 6 "\x00\x00\x00\x00\x009"`,
		"copy 1 oar peg => ok", "fair 1 99 => ok 4", "result 1 => ok exists",
		"writeat 1 none 0 x => ok", "fair 1 99 => ok 2", "result 1 => ok notfound",
		"read 1 1.1 1 => ok", "fair 1 9 => ok 1", "result 1 => "+last(t, one, "write 1 1.1 1 \"\\x009\"", "fair 1 9", "write 1 1.1 1 \"\\x009\"", "fair 1 9", "read 1 1.1 1", "fair 1 9", "result 1"),
		"legal => ok 35", "audit => ok",
	)
}

// What a Result has of a world is told, and nothing that it has not.
func TestP2004InAWorld(t *testing.T) {
	t.Parallel()
	talk(t, "world 0 1 1 2 2 512 7 => ok",
		"list 1 0 => ok", "all => ok 5", "result 1 => ok ok @1", // an instance alone
		"read 1 1.1 0 => ok", "all => ok 2", `result 1 => ok ok "\x00\x00"`, // bytes alone
		"write 1 1.1 0 ab => ok", "all => ok 4", "result 1 => ok ok 1.1", // a stamp alone
		"read 1 1.1 0 => ok", "all => ok 2", `result 1 => ok ok "ab" 1.1`,
		`create 1 "\"" => ok`, "all => ok 5", `result 1 => ok ok "\"" 1.5 0 @2`, // a size of 0 is told
		`create 1 "\xff" => ok`, "all => ok 5", `result 1 => ok ok "\xff" 1.6 0 @3`,
		"list 1 0 => ok", "all => ok 5", `result 1 => ok ok "\"" 1.5 0 "\xff" 1.6 0 @4`,
		`writeat 1 "\"" 0 xyz => ok`, "all => ok 20", `result 1 => ok ok "\"" 1.5 3 3`,
		`readat 1 "\"" 1 9 => ok`, "all => ok 9", `result 1 => ok ok "\"" 1.5 3 "yz"`,
		`readat 1 "\"" 3 9 => ok`, "all => ok 5", `result 1 => ok ok "\"" 1.5 3`,
		"create 1 c => ok", "all => ok 5", "result 1 => ok room", "lookup 1 c => ok", "all => ok 5", "result 1 => ok notfound",
	)
}
