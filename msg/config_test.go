package msg_test

import (
	"math"
	"slices"
	"testing"

	"cairn/api"
	"cairn/msg"
)

// answers tells what each of the calls answers, to right arguments and to wrong ones: its error, and whether what stands beside it is zero.
func answers(c api.Config) map[string][]answer {
	put := ordinary()[1]
	sealed := func(b []byte, _ api.Errno) [][]byte { return [][]byte{b, nil, append(slices.Clone(b), 0), {1, 2, 3}} }
	return map[string][]answer{
		"Valid":        judged(msg.Valid, c, put, api.Msg{}),
		"Command":      judged(msg.Command, c, create, api.Command{}),
		"Bucket":       judged(msg.Bucket, c, full(), api.Bucket{Upto: -1}),
		"Encode":       packed(msg.Encode, c, put, api.Msg{}),
		"PackBlock":    packed(msg.PackBlock, c, api.Block{Stamp: stamp(7, 4), Data: []byte{1, 2, 3}}, api.Block{}),
		"PackInstance": packed(msg.PackInstance, c, api.Instance{}, api.Instance{Decided: true}),
		"PackBucket":   packed(msg.PackBucket, c, full(), api.Bucket{Upto: -1}),
		"Decode":       opened(msg.Decode, c, sealed(msg.Encode(put, small))),
		"ReadBlock":    opened(msg.ReadBlock, c, sealed(msg.PackBlock(api.Block{Stamp: stamp(7, 4), Data: []byte{1, 2, 3}}, small))),
		"ReadInstance": opened(msg.ReadInstance, c, sealed(msg.PackInstance(api.Instance{}, small))),
		"ReadBucket":   opened(msg.ReadBucket, c, sealed(msg.PackBucket(full(), small))),
	}
}

type answer struct {
	e    api.Errno
	zero bool
}

func judged[T any](call func(T, api.Config) api.Errno, c api.Config, things ...T) []answer {
	var l []answer
	for _, x := range things {
		l = append(l, answer{call(x, c), true})
	}
	return l
}

func packed[T any](call func(T, api.Config) ([]byte, api.Errno), c api.Config, things ...T) []answer {
	var l []answer
	for _, x := range things {
		b, e := call(x, c)
		l = append(l, answer{e, len(b) == 0})
	}
	return l
}

func opened[T any](call func([]byte, api.Config) (T, api.Errno), c api.Config, rows [][]byte) []answer {
	var l []answer
	var none T
	for _, b := range rows {
		x, e := call(b, c)
		l = append(l, answer{e, alike(x, none)})
	}
	return l
}

func ids(from, to int) []int {
	var l []int
	for id := from; id <= to; id++ {
		l = append(l, id)
	}
	return l
}

func wrongConfigs() []api.Config {
	l := []api.Config{{}}
	with := func(change func(*api.Config)) {
		c := small
		change(&c)
		l = append(l, c)
	}
	for _, servers := range [][]int{nil, {}, {1}, {1, 2}, {1, 1, 2}, {1, 2, 1}, {2, 1, 1}, {0, 1, 2}, {1, 2, 256}, {1, 2, -1}, {1, 2, math.MinInt}, {1, 2, math.MaxInt}, {1, 2, 3, 4, 4}, ids(1, 65), ids(0, 3), ids(250, 256), append(ids(1, 255), 255)} {
		with(func(c *api.Config) { c.Servers = servers })
	}
	for _, n := range []int{math.MinInt, -1, 2, 4, 5, math.MaxInt / 2, math.MaxInt} {
		with(func(c *api.Config) { c.F = n })
	}
	with(func(c *api.Config) { c.F, c.Servers = 4, ids(1, 64) })
	with(func(c *api.Config) { c.F, c.Servers = 3, ids(1, 6) })
	for most, at := range map[int]func(*api.Config) *int{
		64: func(c *api.Config) *int { return &c.Points }, 256: func(c *api.Config) *int { return &c.Buckets },
		4096: func(c *api.Config) *int { return &c.Block },
	} {
		for _, n := range []int{math.MinInt, -1, 0, most + 1, math.MaxInt} {
			with(func(c *api.Config) { *at(c) = n })
		}
	}
	for _, n := range []int{math.MinInt, -1, 0, 257, math.MaxInt} {
		with(func(c *api.Config) { c.Room = n })
	}
	return l
}

// A configuration that is not right comes ahead of all else, for each of the calls.
func TestW2WrongConfigurations(t *testing.T) {
	for _, c := range wrongConfigs() {
		for call, list := range answers(c) {
			for i, a := range list {
				if a.e != api.ErrConfig || !a.zero {
					t.Errorf("%+v: %s, argument %d: %v; nothing beside it: %v", c, call, i, a.e, a.zero)
				}
			}
		}
	}
}

// At the ends that W2 names the configuration is right.
func TestW2RightConfigurations(t *testing.T) {
	list := []api.Config{small, great, least}
	for _, servers := range [][]int{ids(1, 3), ids(1, 64), ids(192, 255), {255, 1, 128}} {
		list = append(list, api.Config{Servers: servers, F: 1, Points: 64, Buckets: 256, Block: 4096, Room: 256}, api.Config{Servers: servers, F: 0, Points: 1, Buckets: 1, Block: 1, Room: 1})
	}
	for f := range 4 {
		list = append(list, api.Config{Servers: ids(1, 2*f+1), F: f, Points: 1, Buckets: 1, Block: 1, Room: 1}, api.Config{Servers: ids(1, 64), F: f, Points: 1, Buckets: 1, Block: 1, Room: 1})
	}
	for _, c := range list {
		for call, list := range answers(c) {
			for i, a := range list {
				if a.e == api.ErrConfig {
					t.Errorf("%+v: %s, argument %d: %v", c, call, i, a.e)
				}
			}
		}
		if e := msg.Command(create, c); e != api.OK {
			t.Errorf("%+v: Command: %v", c, e)
		}
		if b, e := msg.PackInstance(api.Instance{}, c); e != api.OK || len(b) != 18 {
			t.Errorf("%+v: PackInstance: %v, %v", c, b, e)
		}
	}
}
