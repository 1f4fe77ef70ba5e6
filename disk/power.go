package disk

import "cairn/api"

// power says what may fail: ahead of each write it tells whether it holds, and how many bytes are laid down.
type power interface {
	ask() (holds bool, laid int)
}

// steady is the power of a disk that is not armed.
type steady struct{}

// armed holds for the writes that are left; the next one it tears.
type armed struct {
	left, torn int
}

func (steady) ask() (bool, int) {
	return true, api.Sector
}

func (a armed) ask() (bool, int) {
	if a.left > 0 {
		return true, api.Sector
	}
	return false, a.torn
}

// spent is the power behind a write. One that has failed is steady again: a disk that has fallen is not armed.
func spent(p power) power {
	switch a := p.(type) {
	case armed:
		if a.left > 0 {
			return armed{left: a.left - 1, torn: a.torn}
		}
		return steady{}
	default:
		return p
	}
}
