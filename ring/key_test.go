package ring_test

import (
	"math"
	"testing"

	"cairn/api"
	"cairn/ring"
)

func TestP201Hash(t *testing.T) {
	for _, c := range []struct {
		k    api.Key
		want int
	}{
		{api.Key{Kind: api.KBucket}, 2485325127},
		{api.Key{Kind: api.KBlock, A: 7, B: 12, C: 3}, 1980883980},
		{api.Key{A: -1}, 507228989},
	} {
		if h := ring.Hash(c.k); h != c.want {
			t.Errorf("Hash(%v) = %d, want %d", c.k, h, c.want)
		}
	}
}

func TestP201HashOfAnyKey(t *testing.T) {
	ends := []int{0, 1, -1, 255, 256, -256, 1 << 31, 1 << 32, 1 << 40, 1 << 56, -1 << 56, math.MaxInt, math.MinInt, 0x0102030405060708}
	for _, a := range ends {
		for _, b := range ends {
			for _, k := range []api.Key{{Kind: a, A: b}, {A: a, B: b}, {B: a, C: b}, {Kind: b, C: a}} {
				h := ring.Hash(k)
				if want := sumOf(k.Kind, k.A, k.B, k.C); h != want {
					t.Fatalf("Hash(%v) = %d, want %d", k, h, want)
				}
				if h < 0 || h >= circle {
					t.Fatalf("Hash(%v) = %d is no place", k, h)
				}
			}
		}
	}
}

func TestP202Less(t *testing.T) {
	ends := []int{math.MinInt, -3, 0, 1, 2, math.MaxInt}
	var rising []api.Key
	for _, kind := range ends {
		for _, a := range ends {
			for _, b := range ends {
				for _, c := range ends {
					rising = append(rising, api.Key{Kind: kind, A: a, B: b, C: c})
				}
			}
		}
	}
	for i, a := range rising {
		for j, b := range rising {
			if ring.Less(a, b) != (i < j) {
				t.Fatalf("Less(%v, %v) = %v", a, b, i >= j)
			}
		}
	}
}

func TestP202Examples(t *testing.T) {
	k := api.Key{Kind: 1, A: 2, B: 3, C: 4}
	if !ring.Less(api.Key{Kind: 1, A: 5}, api.Key{Kind: 2, A: 1}) || ring.Less(k, k) || !ring.Less(api.Key{Kind: 1, A: -3}, api.Key{Kind: 1}) {
		t.Error("Less answers otherwise than example 6")
	}
}

func TestP203Right(t *testing.T) {
	const block, bucket, instance = api.KBlock, api.KBucket, api.KInstance
	for _, c := range []struct {
		k    api.Key
		want bool
	}{
		{api.Key{Kind: block, A: 1, B: 1, C: 0}, true},
		{api.Key{Kind: block, A: 255, B: 1 << 40, C: 1<<20 - 1}, true},
		{api.Key{Kind: block, A: 0, B: 1, C: 0}, false},
		{api.Key{Kind: block, A: 256, B: 1, C: 0}, false},
		{api.Key{Kind: block, A: -1, B: 1, C: 0}, false},
		{api.Key{Kind: block, A: 1, B: 0, C: 0}, false},
		{api.Key{Kind: block, A: 1, B: 1<<40 + 1, C: 0}, false},
		{api.Key{Kind: block, A: 1, B: math.MinInt, C: 0}, false},
		{api.Key{Kind: block, A: 1, B: 1, C: -1}, false},
		{api.Key{Kind: block, A: 1, B: 1, C: 1 << 20}, false},
		{api.Key{Kind: bucket, A: 0}, true},
		{api.Key{Kind: bucket, A: 3}, true},
		{api.Key{Kind: bucket, A: 4}, false},
		{api.Key{Kind: bucket, A: -1}, false},
		{api.Key{Kind: bucket, A: 1, B: 1}, false},
		{api.Key{Kind: bucket, A: 1, B: -1}, false},
		{api.Key{Kind: bucket, A: 1, C: 1}, false},
		{api.Key{Kind: instance, A: 3, B: 1}, true},
		{api.Key{Kind: instance, A: 0, B: 1 << 20}, true},
		{api.Key{Kind: instance, A: 4, B: 1}, false},
		{api.Key{Kind: instance, A: -1, B: 1}, false},
		{api.Key{Kind: instance, A: 0, B: 0}, false},
		{api.Key{Kind: instance, A: 0, B: 1<<20 + 1}, false},
		{api.Key{Kind: instance, A: 3, B: 1, C: 1}, false},
		{api.Key{}, false},
		{api.Key{Kind: 4, A: 1, B: 1}, false},
		{api.Key{Kind: -1, A: 1, B: 1}, false},
	} {
		if got := ring.Right(c.k, small()); got != c.want {
			t.Errorf("Right(%v) = %v", c.k, got)
		}
	}
}

func TestP203BucketsOfTheConfiguration(t *testing.T) {
	for _, kind := range []int{api.KBucket, api.KInstance} {
		first, last := api.Key{Kind: kind}, api.Key{Kind: kind, A: 255}
		if kind == api.KInstance {
			first.B, last.B = 1, 1
		}
		if !ring.Right(first, least()) || ring.Right(last, least()) || !ring.Right(last, great()) {
			t.Errorf("kind %d: not the configuration's buckets", kind)
		}
	}
}

func TestMajority(t *testing.T) {
	for f := range api.MaxF + 1 {
		c := great()
		c.F = f
		if n := ring.Majority(c); n != f+1 {
			t.Errorf("F %d: Majority = %d", f, n)
		}
	}
}

// Of configurations that may not be, it is only asked that the calls end.
func TestP1P8WrongConfigurations(t *testing.T) {
	for _, n := range []int{math.MinInt, -1, 0, math.MaxInt} {
		c := api.Config{F: n, Points: n, Buckets: n, Block: n, Room: n}
		ring.Majority(c)
		for kind := range 5 {
			ring.Right(api.Key{Kind: kind, A: n, B: n, C: n}, c)
		}
	}
}
