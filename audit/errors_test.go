package audit_test

import (
	"math"
	"testing"

	"cairn/api"
	"cairn/audit"
)

func mustRefuseRun(t testing.TB, c api.Config, l []api.Image, workers int, want api.Errno) {
	t.Helper()
	if got, err := audit.Run(c, l, workers); err != want || len(got) != 0 {
		t.Fatalf("Run of %d images with %d workers: %v, %v, not %v", len(l), workers, got, err, want)
	}
}

func mustRefuseNewest(t testing.TB, c api.Config, l []api.Image, k api.Key, want api.Errno) {
	t.Helper()
	if x, b, err := audit.Newest(c, l, k); err != want || !sameBlock(x, api.Block{}) || !sameBucket(b, api.Bucket{}) {
		t.Fatalf("Newest(%v) of %d images: %v, %v, %v, not %v", k, len(l), x, b, err, want)
	}
}

// wrongConfigs are not right, each by one thing, at the edges of W2.
func wrongConfigs() []api.Config {
	list := []api.Config{{}}
	wrong := func(change func(c *api.Config)) {
		c := three()
		change(&c)
		list = append(list, c)
	}
	for _, servers := range [][]int{nil, {1, 2}, {1, 2, 2}, {0, 2, 3}, {2, 3, 256}, {-1, 2, 3}} {
		wrong(func(c *api.Config) { c.Servers = servers })
	}
	wrong(func(c *api.Config) {
		for id := 4; id <= 65; id++ {
			c.Servers = append(c.Servers, id)
		}
	})
	for _, n := range []int{-1, 2, 4, math.MinInt, math.MaxInt} {
		wrong(func(c *api.Config) { c.F = n })
	}
	for _, n := range []int{math.MinInt, -1, 0, math.MaxInt} {
		wrong(func(c *api.Config) { c.Points = n })
		wrong(func(c *api.Config) { c.Buckets = n })
		wrong(func(c *api.Config) { c.Block = n })
		wrong(func(c *api.Config) { c.Room = n })
	}
	wrong(func(c *api.Config) { c.Points = api.MaxPoints + 1 })
	wrong(func(c *api.Config) { c.Buckets = api.MaxBuckets + 1 })
	wrong(func(c *api.Config) { c.Block = api.MaxBlock + 1 })
	wrong(func(c *api.Config) { c.Room = api.MaxRoom + 1 })
	return list
}

// greatest is at all ends of W2.
func greatest() api.Config {
	c := api.Config{F: api.MaxF, Points: api.MaxPoints, Buckets: api.MaxBuckets, Block: api.MaxBlock, Room: api.MaxRoom}
	for id := api.MaxId; len(c.Servers) < api.MaxServers; id -= 3 {
		c.Servers = append(c.Servers, id)
	}
	return c
}

func TestP1901Config(t *testing.T) {
	bad := []api.Image{{Server: 77}}
	for _, c := range wrongConfigs() {
		mustRefuseRun(t, c, nil, 1, api.ErrConfig)
		mustRefuseRun(t, c, bad, 0, api.ErrConfig)
		mustRefuseNewest(t, c, nil, dir(1), api.ErrConfig)
		mustRefuseNewest(t, c, bad, api.Key{}, api.ErrConfig)
	}
	for _, c := range append(configs(), greatest(), api.Config{Servers: []int{255}, Points: 1, Buckets: 1, Block: 1, Room: 1}) {
		mustFind(t, c, nil)
		mustBeNewestBucket(t, c, nil, 0, api.Bucket{})
		mustBeNewestBlock(t, c, nil, blockAt(0), api.Block{})
	}
}

func TestP1901Workers(t *testing.T) {
	good := []api.Image{image(three(), 2, records{at(1, 1): []byte{1}})}
	for _, workers := range []int{math.MinInt, -2, -1, 0, 17, 18, 1 << 32, 1<<32 + 1, math.MaxInt} {
		mustRefuseRun(t, three(), nil, workers, api.ErrArg)
		mustRefuseRun(t, three(), good, workers, api.ErrArg)
		mustRefuseRun(t, three(), []api.Image{{Server: 77}}, workers, api.ErrArg)
		mustRefuseRun(t, three(), []api.Image{{Server: 1, Data: make([]byte, 100)}}, workers, api.ErrArg)
	}
	for workers := 1; workers <= api.MaxWorkers; workers++ {
		if l, err := audit.Run(three(), good, workers); err != api.OK || len(l) != 1 {
			t.Errorf("Run with %d workers: %v, %v", workers, l, err)
		}
	}
}

// mustRefuseImages: Run and Newest refuse them alike, ahead of the key.
func mustRefuseImages(t testing.TB, want api.Errno, l ...api.Image) {
	t.Helper()
	for _, workers := range []int{1, api.MaxWorkers} {
		mustRefuseRun(t, three(), l, workers, want)
	}
	for _, k := range []api.Key{blockAt(0), dir(1), at(1, 1), {}, dir(2)} {
		mustRefuseNewest(t, three(), l, k, want)
	}
}

func TestP1901NoServer(t *testing.T) {
	one, two := image(three(), 1, nil), image(three(), 2, records{dir(1): made(three(), x())})
	for _, id := range []int{math.MinInt, -2, -1, 0, 4, 5, 255, 256, 257, math.MaxInt} {
		mustRefuseImages(t, api.ErrAddr, api.Image{Server: id, Data: one.Data})
		mustRefuseImages(t, api.ErrAddr, two, one, api.Image{Server: id, Data: one.Data})
	}
}

func TestP1901TheSameServer(t *testing.T) {
	one, two, three := image(three(), 1, nil), image(three(), 2, records{dir(1): made(three(), x())}), image(three(), 3, nil)
	mustRefuseImages(t, api.ErrAddr, one, one)
	mustRefuseImages(t, api.ErrAddr, two, one, two)
	mustRefuseImages(t, api.ErrAddr, three, two, two, one)
	mustRefuseImages(t, api.ErrAddr, two, api.Image{Server: 2, Data: one.Data})
	mustRefuseImages(t, api.ErrAddr, one, two, three, one)
}

// sizesOfNoDisk are the lengths that disk.Load refuses.
func sizesOfNoDisk() []int {
	return []int{0, 1, 100, 511, 513, 1023, 1025, api.MaxSectors*api.Sector - 1, api.MaxSectors*api.Sector + 1, (api.MaxSectors + 1) * api.Sector}
}

func TestP1901Sectors(t *testing.T) {
	two := image(three(), 2, records{dir(1): made(three(), x())})
	for _, size := range sizesOfNoDisk() {
		bad := api.Image{Server: 1, Data: make([]byte, size)}
		mustRefuseImages(t, api.ErrSectors, bad)
		mustRefuseImages(t, api.ErrSectors, two, bad)
		mustRefuseImages(t, api.ErrSectors, bad, two)
	}
	for _, sectors := range []int{1, 2, api.MaxSectors} {
		good := api.Image{Server: 1, Data: make([]byte, sectors*api.Sector)}
		mustFind(t, three(), []api.Image{good})
		mustBeNewestBlock(t, three(), []api.Image{good}, blockAt(0), api.Block{})
	}
}

// Of several wrong images the first one counts, of one its server ahead of its bytes.
func TestP1901Order(t *testing.T) {
	one, two := image(three(), 1, nil), image(three(), 2, nil)
	far, short := api.Image{Server: 4, Data: one.Data}, api.Image{Server: 3, Data: make([]byte, 100)}
	mustRefuseImages(t, api.ErrAddr, far, short)
	mustRefuseImages(t, api.ErrSectors, short, far)
	mustRefuseImages(t, api.ErrSectors, one, two, short, far)
	mustRefuseImages(t, api.ErrAddr, one, two, far, short)
	mustRefuseImages(t, api.ErrAddr, api.Image{Server: 4, Data: short.Data})
	mustRefuseImages(t, api.ErrSectors, short, short)
	mustRefuseImages(t, api.ErrAddr, image(three(), 3, nil), short)
	mustRefuseImages(t, api.ErrSectors, short, one, one)
	mustRefuseImages(t, api.ErrAddr, one, one, short)
}

func TestP1901Key(t *testing.T) {
	good := [][]api.Image{nil, {image(three(), 2, records{at(1, 1): decided(x()), dir(0): made(three(), x())})}}
	for _, l := range good {
		for _, k := range []api.Key{
			{}, {Kind: -1}, {Kind: 4}, {Kind: math.MaxInt}, {Kind: math.MinInt},
			at(1, 1), at(0, 1), at(1, api.MaxInstance), at(1, 0), at(2, 1), at(1, api.MaxInstance+1),
			dir(2), dir(-1), dir(255), dir(math.MaxInt), {Kind: api.KBucket, A: 1, B: 1}, {Kind: api.KBucket, A: 1, C: 1}, {Kind: api.KBucket, B: -1},
			{Kind: api.KBlock}, {Kind: api.KBlock, A: 1}, {Kind: api.KBlock, B: 1}, {Kind: api.KBlock, A: 256, B: 1}, {Kind: api.KBlock, A: -1, B: 1},
			{Kind: api.KBlock, A: 1, B: api.MaxNum + 1}, {Kind: api.KBlock, A: 1, B: 1, C: -1}, {Kind: api.KBlock, A: 1, B: 1, C: api.MaxIndex},
		} {
			mustRefuseNewest(t, three(), l, k, api.ErrKey)
		}
		for _, k := range []api.Key{
			{Kind: api.KBlock, A: 1, B: 1}, {Kind: api.KBlock, A: 255, B: api.MaxNum, C: api.MaxIndex - 1},
		} {
			mustBeNewestBlock(t, three(), l, k, api.Block{})
		}
	}
	mustBeNewestBucket(t, three(), nil, 1, api.Bucket{})
	mustBeNewestBucket(t, three(), good[1], 0, made(three(), x()))
}
