package stable

import "cairn/api"

// A sector holds its mark, seven numbers of 8 bytes, a part of the record, and at its end the mark again.
const (
	front   = 1 + 7*8
	payload = 448 // bytes of a record in one sector: a kind's width counts so many
	last    = api.Sector - 1
)

// name is what all pieces of one record have in common: no two records that were laid down have one name.
type name struct {
	key     api.Key
	version int // rises with each Put
	length  int
}

// piece names what lies in one sector: the index-th part of a record. The zero piece is none.
type piece struct {
	name
	index int
}

// pieces is how many sectors a record of that length needs.
func pieces(length int) int {
	return max(1, (length+payload-1)/payload)
}

// part is what the index-th piece of a record holds of it.
func part(record []byte, index int) []byte {
	return record[index*payload : min((index+1)*payload, len(record))]
}

// unlike is a mark that stands at neither end of what a sector holds. So a write that is torn between its ends leaves two marks that differ, and no later one that is torn makes them the same.
func unlike(there []byte) byte {
	mark := byte(1)
	for mark == there[0] || mark == there[last] {
		mark++
	}
	return mark
}

// filled is a sector with that piece.
func filled(p piece, part []byte, mark byte) []byte {
	b := make([]byte, api.Sector)
	b[0], b[last] = mark, mark
	numbers := [...]int{p.key.Kind, p.key.A, p.key.B, p.key.C, p.version, p.length, p.index}
	for i, n := range numbers {
		putNumber(b[1+8*i:], uint64(n))
	}
	copy(b[front:], part)
	return b
}

// pieceOf tells which piece lies in a sector, if one lies there whole.
func pieceOf(b []byte, most Most) (piece, bool) {
	if b[0] != b[last] {
		return piece{}, false
	}
	var n [7]int
	for i := range n {
		n[i] = int(number(b[1+8*i:]))
	}
	p := piece{name{api.Key{Kind: n[0], A: n[1], B: n[2], C: n[3]}, n[4], n[5]}, n[6]}
	if !mayBe(p.key) || !within(p.length, 0, most[p.key.Kind]) || !within(p.index, 0, pieces(p.length)-1) {
		return piece{}, false
	}
	return p, true
}

// putNumber and number take 8 bytes, the greatest part first.
func putNumber(b []byte, n uint64) {
	for i := range 8 {
		b[i] = byte(n >> (56 - 8*i))
	}
}

func number(b []byte) uint64 {
	var n uint64
	for _, c := range b[:8] {
		n = n<<8 | uint64(c)
	}
	return n
}
