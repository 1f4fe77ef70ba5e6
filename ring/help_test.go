package ring_test

import (
	"encoding/binary"
	"hash/fnv"
	"slices"
	"testing"

	"cairn/api"
	"cairn/ring"
)

const circle = 1 << 32

// small is the configuration of the chapter's examples.
func small() api.Config {
	return api.Config{Servers: []int{30, 10, 20}, F: 1, Points: 2, Buckets: 4, Block: 8, Room: 2}
}

// great has every number at its end.
func great() api.Config {
	c := api.Config{F: api.MaxF, Points: api.MaxPoints, Buckets: api.MaxBuckets, Block: api.MaxBlock, Room: api.MaxRoom}
	for i := range api.MaxServers {
		c.Servers = append(c.Servers, api.MaxId-4*i)
	}
	return c
}

// least has every number at its beginning.
func least() api.Config {
	return api.Config{Servers: []int{1}, Points: 1, Buckets: 1, Block: 1, Room: 1}
}

// several are right configurations of all sorts.
func several() []api.Config {
	list := []api.Config{small(), great(), least()}
	for i := range 24 {
		c := api.Config{F: i % 4, Points: 1 + i*i%7, Buckets: 1 + i*11%256, Block: 1 + i, Room: 1 + i}
		for j := range 2*c.F + 1 + i%5 {
			c.Servers = append(c.Servers, 1+(i*31+j*97)%255)
		}
		list = append(list, c)
	}
	return list
}

// someKeys are right keys of a configuration, of every kind.
func someKeys(c api.Config) []api.Key {
	keys := []api.Key{{Kind: api.KBlock, A: 1, B: 1}, {Kind: api.KBlock, A: api.MaxId, B: api.MaxNum, C: api.MaxIndex - 1}}
	for i := range 60 {
		keys = append(keys, api.Key{Kind: api.KBlock, A: 1 + i*89%255, B: 1 + i*i*i*77777, C: i * 1237})
	}
	for a := range c.Buckets {
		keys = append(keys, api.Key{Kind: api.KBucket, A: a}, api.Key{Kind: api.KInstance, A: a, B: 1 + a*4111%api.MaxInstance})
	}
	return keys
}

func made(t *testing.T, c api.Config) *ring.Ring {
	t.Helper()
	r, e := ring.New(c)
	if e != api.OK || r == nil {
		t.Fatalf("New(%v): %v", c, e)
	}
	return r
}

func groupOf(t *testing.T, r *ring.Ring, k api.Key) []int {
	t.Helper()
	group, e := r.Group(k)
	if e != api.OK {
		t.Fatalf("Group(%v): %v", k, e)
	}
	return group
}

// spot is a point as the test finds it.
type spot struct {
	hash, server, number int
}

func sum(b []byte) int {
	h := fnv.New32a()
	h.Write(b)
	return int(h.Sum32())
}

func sumOf(numbers ...int) int {
	var b []byte
	for _, n := range numbers {
		b = binary.LittleEndian.AppendUint64(b, uint64(n))
	}
	return sum(b)
}

// spotsOf finds the points in the ring's order, each put where it belongs among those found so far.
func spotsOf(c api.Config) []spot {
	var spots []spot
	for _, s := range c.Servers {
		for n := range c.Points {
			p := spot{sumOf(s, n), s, n}
			i := 0
			for i < len(spots) && slices.Compare([]int{spots[i].hash, spots[i].server, spots[i].number}, []int{p.hash, p.server, p.number}) < 0 {
				i++
			}
			spots = slices.Insert(spots, i, p)
		}
	}
	return spots
}

// walk tells the group of a hash, by going along the points one by one.
func walk(spots []spot, hash, want int) []int {
	var ahead, behind []spot
	for _, p := range spots {
		if p.hash >= hash {
			ahead = append(ahead, p)
		} else {
			behind = append(behind, p)
		}
	}
	var group []int
	for _, p := range append(ahead, behind...) {
		if len(group) < want && !slices.Contains(group, p.server) {
			group = append(group, p.server)
		}
	}
	return group
}
