package shell

import "cairn/api"

// place is where in a line a rune stands.
type place int

const (
	gap     place = iota // where a word may begin
	plain                // in a plain word
	quoted               // in a quoted one
	escaped              // behind a backslash
	high                 // behind \x, where the first digit stands
	low                  // where the second one stands
	ended                // right behind a quoted word
	wrong                // where it may not stand: so is all that follows
)

// cutter takes a line to pieces, and is handed its runes one by one.
type cutter struct {
	line  string
	words []string
	at    place
	from  int    // where the plain word began, or the row of bytes of the quoted one that stand there as they are
	bytes []byte // those of the quoted word that come ahead of this row
}

// Words takes a line to pieces; Quote writes bytes as a word.
func Words(line string) ([]string, api.Errno) {
	c := cutter{line: line}
runes:
	for i, r := range line {
		switch c.at {
		case gap:
			if r == '#' {
				break runes
			}
			c.begin(i, r)
		case plain:
			c.inPlain(i, r)
		case quoted:
			c.inQuoted(i, r)
		case escaped:
			c.inEscape(i, r)
		case high, low:
			c.inDigits(i, r)
		case ended:
			c.behindQuoted(r)
		case wrong:
			break runes
		}
	}
	return c.end()
}

func isBlank(r rune) bool { return r == ' ' || r == '\t' }

// begin is a rune ahead of which no word stands.
func (c *cutter) begin(i int, r rune) {
	switch {
	case r == '"':
		c.at, c.from, c.bytes = quoted, i+1, nil
	case !isBlank(r):
		c.at, c.from = plain, i
	}
}

func (c *cutter) inPlain(i int, r rune) {
	switch {
	case r == '"':
		c.at = wrong
	case isBlank(r):
		c.at, c.words = gap, append(c.words, c.line[c.from:i])
	}
}

// inQuoted takes the bytes from the line, not from the rune: bytes that are no rune stand for themselves.
func (c *cutter) inQuoted(i int, r rune) {
	switch r {
	case '\\':
		c.at, c.bytes = escaped, append(c.bytes, c.line[c.from:i]...)
	case '"':
		c.at, c.bytes = ended, append(c.bytes, c.line[c.from:i]...)
		c.words = append(c.words, string(c.bytes))
	}
}

func (c *cutter) inEscape(i int, r rune) {
	c.at, c.from = quoted, i+1
	switch r {
	case '"', '\\':
		c.bytes = append(c.bytes, byte(r))
	case 'n':
		c.bytes = append(c.bytes, '\n')
	case 't':
		c.bytes = append(c.bytes, '\t')
	case 'x':
		c.at, c.bytes = high, append(c.bytes, 0)
	default:
		c.at = wrong
	}
}

// inDigits puts a half into the byte that \x has begun.
func (c *cutter) inDigits(i int, r rune) {
	last := len(c.bytes) - 1
	half, ok := digitOf(r)
	switch {
	case !ok:
		c.at = wrong
	case c.at == high:
		c.at, c.bytes[last] = low, half<<4
	default:
		c.at, c.from = quoted, i+1
		c.bytes[last] |= half
	}
}

func digitOf(r rune) (byte, bool) {
	switch {
	case r >= '0' && r <= '9':
		return byte(r - '0'), true
	case r >= 'a' && r <= 'f':
		return byte(r - 'a' + 10), true
	}
	return 0, false
}

func (c *cutter) behindQuoted(r rune) {
	c.at = wrong
	if isBlank(r) {
		c.at = gap
	}
}

// end is what stands behind the line's last rune.
func (c *cutter) end() ([]string, api.Errno) {
	switch c.at {
	case gap, ended:
		return c.words, api.OK
	case plain:
		return append(c.words, c.line[c.from:]), api.OK
	}
	return nil, api.ErrWord
}

const digits = "0123456789abcdef"

func Quote(b []byte) string {
	q := []byte{'"'}
	for _, x := range b {
		switch {
		case x == '"' || x == '\\':
			q = append(q, '\\', x)
		case x == '\n':
			q = append(q, '\\', 'n')
		case x == '\t':
			q = append(q, '\\', 't')
		case x < ' ' || x > '~':
			q = append(q, '\\', 'x', digits[x>>4], digits[x&15])
		default:
			q = append(q, x)
		}
	}
	return string(append(q, '"'))
}
