package shell_test

import "testing"

// The chapter's examples, and what its exchanges make.
func TestP2003Examples(t *testing.T) {
	t.Parallel()
	talk(t,
		`lookup 1 a => none`,
		`world 1 4 2 4 8 4096 1 2 3 => ok`,
		`create 1 "a b" => ok`,
		`create 1 x => busy`,
		`fair 1 9 => ok 2`,
		`result 1 => ok ok "a b" 1.1 0 @1`,
		`writeat 2 "a b" 1 xyz => ok`,
		`fair 2 99 => ok 9`, // Lookup, behind an instance that is not learned: 4; ORead: 1; OWrite: 2; OGrow: 2
		`readat 3 "a b" 0 9 => ok`,
		`fair 3 99 => ok 7`, // Lookup, behind two that servers know as decided and one that they don't: 6; ORead: 1
		`result 3 => ok ok "a b" 1.1 4 "\x00xyz"`,
		`frob => word`,
	)
}
