package ring

const (
	circle = 1 << 32 // how many hashes there are
	start  = 2166136261
	factor = 16777619
)

// hashOf takes texts too: a name may be long, and need not be copied.
func hashOf[T string | []byte](row T) int {
	hash := uint32(start)
	for i := range len(row) {
		hash = (hash ^ uint32(row[i])) * factor
	}
	return int(hash)
}

// eights tells numbers as eight bytes each, the lowest first.
func eights(numbers ...int) []byte {
	row := make([]byte, 0, 8*len(numbers))
	for _, number := range numbers {
		for shift := 0; shift < 64; shift += 8 {
			row = append(row, byte(uint64(number)>>shift))
		}
	}
	return row
}
