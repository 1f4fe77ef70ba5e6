package ring

import (
	"slices"
	"testing"

	"cairn/api"
)

// No right configuration has two points with one hash (TestP205AllPointsUnlike): so they are laid here by hand.
func level() *Ring {
	r := &Ring{config: api.Config{Servers: []int{3, 5, 9}, F: 1, Points: 2, Buckets: 1, Block: 1, Room: 1}}
	r.points = []point{{700, 5}, {200, 9}, {700, 3}, {900, 5}, {200, 3}, {900, 9}}
	sortAll(r.points)
	return r
}

func TestP205OneHash(t *testing.T) {
	if got := level().points; !slices.Equal(got, []point{{200, 3}, {200, 9}, {700, 3}, {700, 5}, {900, 5}, {900, 9}}) {
		t.Errorf("points %v", got)
	}
}

func TestP206OneHash(t *testing.T) {
	r := level()
	for hash, want := range map[int][]int{0: {3, 9, 5}, 200: {3, 9, 5}, 201: {3, 5, 9}, 700: {3, 5, 9}, 701: {5, 9, 3}, 900: {5, 9, 3}, 901: {3, 9, 5}, circle - 1: {3, 9, 5}} {
		if got := r.serversFrom(hash); !slices.Equal(got, want) {
			t.Errorf("from %d: %v, want %v", hash, got, want)
		}
	}
}

func TestP208OneHash(t *testing.T) {
	r := level()
	for server, hashes := range map[int]float64{3: 500 + 200 + circle - 900, 5: 200, 9: 0} {
		if got := r.Share(server); got != hashes/circle {
			t.Errorf("Share(%d) times all hashes = %v, want %v", server, got*circle, hashes)
		}
	}
}
