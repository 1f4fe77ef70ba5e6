package shell

import (
	"strings"

	"cairn/api"
)

// given is a word of a command as it was read: a number, an address, a file, or bytes as they stand.
type given struct {
	n    int
	addr api.Addr
	file api.File
	text string
}

// need reads a word of a command; false: it does not read.
type need func(word string) (given, bool)

const (
	mostDigits = 15 // of a number
	idDigits   = 3  // of an address
)

func text(word string) (given, bool) { return given{text: word}, true }

// only is where the table writes a word out.
func only(wanted string) need {
	return func(word string) (given, bool) { return given{}, word == wanted }
}

func number(word string) (given, bool) {
	rest, below := strings.CutPrefix(word, "-")
	n, ok := count(rest, mostDigits)
	if below {
		return given{n: -n}, ok && n > 0
	}
	return given{n: n}, ok
}

func address(word string) (given, bool) {
	id, client := strings.CutPrefix(word, clientMark)
	server := false
	if !client {
		id, server = strings.CutPrefix(word, serverMark)
	}
	n, ok := count(id, idDigits)
	return given{addr: api.Addr{Client: client, Id: n}}, ok && (client || server)
}

func file(word string) (given, bool) {
	client, op, _ := strings.Cut(word, ".")
	c, okClient := count(client, mostDigits)
	o, okOp := count(op, mostDigits)
	return given{file: api.File{Client: c, Op: o}}, okClient && okOp
}

// count reads a number without a sign.
func count(word string, most int) (int, bool) {
	if len(word) < 1 || len(word) > most {
		return 0, false
	}
	n := 0
	for _, r := range word {
		if r < '0' || r > '9' {
			return 0, false
		}
		n = n*10 + int(r-'0')
	}
	return n, true
}
