package stable

import "cairn/api"

// mayBe tells whether a key may be, whatever the configuration.
func mayBe(k api.Key) bool {
	switch k.Kind {
	case api.KBlock:
		return within(k.A, 1, api.MaxId) && within(k.B, 1, api.MaxNum) && within(k.C, 0, api.MaxIndex-1)
	case api.KBucket:
		return within(k.A, 0, api.MaxBuckets-1) && k.B == 0 && k.C == 0
	case api.KInstance:
		return within(k.A, 0, api.MaxBuckets-1) && within(k.B, 1, api.MaxInstance) && k.C == 0
	}
	return false
}

func within(n, low, high int) bool {
	return low <= n && n <= high
}
