package ring

import (
	"cmp"

	"cairn/api"
)

// Hash is that of a key's bytes, whether the key may be or not.
func Hash(k api.Key) int {
	return hashOf(eights(k.Kind, k.A, k.B, k.C))
}

// Less is the order of keys.
func Less(a, b api.Key) bool {
	return cmp.Or(cmp.Compare(a.Kind, b.Kind), cmp.Compare(a.A, b.A), cmp.Compare(a.B, b.B), cmp.Compare(a.C, b.C)) < 0
}

// Right tells whether a key may be.
func Right(k api.Key, c api.Config) bool {
	switch k.Kind {
	case api.KBlock:
		return within(k.A, 1, api.MaxId) && within(k.B, 1, api.MaxNum) && within(k.C, 0, api.MaxIndex-1)
	case api.KBucket:
		return within(k.A, 0, c.Buckets-1) && k.B == 0 && k.C == 0
	case api.KInstance:
		return within(k.A, 0, c.Buckets-1) && within(k.B, 1, api.MaxInstance) && k.C == 0
	}
	return false
}
