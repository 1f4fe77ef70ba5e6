package ring_test

import (
	"math"
	"reflect"
	"slices"
	"strings"
	"testing"

	"cairn/api"
	"cairn/ring"
)

func TestP204EveryLimit(t *testing.T) {
	ids := func(first, n int) []int {
		var list []int
		for i := range n {
			list = append(list, first+i)
		}
		return list
	}
	for what, c := range map[string]struct {
		change func(c *api.Config)
		want   api.Errno
	}{
		"as it is":           {func(c *api.Config) {}, api.OK},
		"F -1":               {func(c *api.Config) { c.F = -1 }, api.ErrConfig},
		"F 0":                {func(c *api.Config) { c.F = 0 }, api.OK},
		"F 2 of 3 servers":   {func(c *api.Config) { c.F = 2 }, api.ErrConfig},
		"F 3 of 6":           {func(c *api.Config) { c.F, c.Servers = 3, ids(1, 6) }, api.ErrConfig},
		"F 3 of 7":           {func(c *api.Config) { c.F, c.Servers = 3, ids(1, 7) }, api.OK},
		"F 4 of 9":           {func(c *api.Config) { c.F, c.Servers = 4, ids(1, 9) }, api.ErrConfig},
		"F least":            {func(c *api.Config) { c.F = math.MinInt }, api.ErrConfig},
		"F greatest":         {func(c *api.Config) { c.F = math.MaxInt }, api.ErrConfig},
		"no servers":         {func(c *api.Config) { c.F, c.Servers = 0, nil }, api.ErrConfig},
		"an empty list":      {func(c *api.Config) { c.F, c.Servers = 0, []int{} }, api.ErrConfig},
		"one server":         {func(c *api.Config) { c.F, c.Servers = 0, ids(9, 1) }, api.OK},
		"2 servers":          {func(c *api.Config) { c.Servers = ids(1, 2) }, api.ErrConfig},
		"64 servers":         {func(c *api.Config) { c.Servers = ids(192, 64) }, api.OK},
		"65 servers":         {func(c *api.Config) { c.Servers = ids(1, 65) }, api.ErrConfig},
		"a great many":       {func(c *api.Config) { c.Servers = ids(1, 1<<20) }, api.ErrConfig},
		"a server twice":     {func(c *api.Config) { c.Servers = []int{1, 1, 2} }, api.ErrConfig},
		"first and last one": {func(c *api.Config) { c.Servers = []int{1, 2, 3, 1} }, api.ErrConfig},
		"id 0":               {func(c *api.Config) { c.Servers = []int{0, 1, 2} }, api.ErrConfig},
		"id -1":              {func(c *api.Config) { c.Servers = []int{2, 1, -1} }, api.ErrConfig},
		"ids 1 and 255":      {func(c *api.Config) { c.Servers = []int{1, 255, 2} }, api.OK},
		"id 256":             {func(c *api.Config) { c.Servers = []int{1, 256, 2} }, api.ErrConfig},
		"Points -1":          {func(c *api.Config) { c.Points = -1 }, api.ErrConfig},
		"Points 0":           {func(c *api.Config) { c.Points = 0 }, api.ErrConfig},
		"Points 1":           {func(c *api.Config) { c.Points = 1 }, api.OK},
		"Points 64":          {func(c *api.Config) { c.Points = 64 }, api.OK},
		"Points 65":          {func(c *api.Config) { c.Points = 65 }, api.ErrConfig},
		"Buckets 0":          {func(c *api.Config) { c.Buckets = 0 }, api.ErrConfig},
		"Buckets 1":          {func(c *api.Config) { c.Buckets = 1 }, api.OK},
		"Buckets 256":        {func(c *api.Config) { c.Buckets = 256 }, api.OK},
		"Buckets 257":        {func(c *api.Config) { c.Buckets = 257 }, api.ErrConfig},
		"Block 0":            {func(c *api.Config) { c.Block = 0 }, api.ErrConfig},
		"Block 1":            {func(c *api.Config) { c.Block = 1 }, api.OK},
		"Block 4096":         {func(c *api.Config) { c.Block = 4096 }, api.OK},
		"Block 4097":         {func(c *api.Config) { c.Block = 4097 }, api.ErrConfig},
		"Room 0":             {func(c *api.Config) { c.Room = 0 }, api.ErrConfig},
		"Room 1":             {func(c *api.Config) { c.Room = 1 }, api.OK},
		"Room 256":           {func(c *api.Config) { c.Room = 256 }, api.OK},
		"Room 257":           {func(c *api.Config) { c.Room = 257 }, api.ErrConfig},
		"all zero":           {func(c *api.Config) { *c = api.Config{} }, api.ErrConfig},
	} {
		given := small()
		c.change(&given)
		r, e := ring.New(given)
		if e != c.want || (r == nil) != (e != api.OK) {
			t.Errorf("%s: New answers %v, a ring: %v; want %v", what, e, r != nil, c.want)
		}
	}
}

func TestP204Config(t *testing.T) {
	for _, c := range several() {
		got := made(t, c).Config()
		want := c
		want.Servers = slices.Clone(c.Servers)
		slices.Sort(want.Servers)
		if !reflect.DeepEqual(got, want) {
			t.Errorf("Config() = %v, want %v", got, want)
		}
	}
	if got := made(t, small()).Config().Servers; !slices.Equal(got, []int{10, 20, 30}) {
		t.Errorf("example 2: Servers %v", got)
	}
}

func TestP205Points(t *testing.T) {
	for _, c := range several() {
		want := spotsOf(c)
		i := 0
		for hash, server := range made(t, c).Points() {
			if i >= len(want) || hash != want[i].hash || server != want[i].server {
				t.Fatalf("%v: point %d: %d of %d", c, i, hash, server)
			}
			i++
		}
		if i != len(want) {
			t.Fatalf("%v: %d points, want %d", c, i, len(want))
		}
	}
}

func TestP205Example(t *testing.T) {
	var got [][2]int
	for hash, server := range made(t, small()).Points() {
		got = append(got, [2]int{hash, server})
	}
	if !slices.Equal(got, [][2]int{{396021870, 10}, {1962684303, 10}, {2152846576, 20}, {2347035514, 30}, {3719509009, 20}, {3913697947, 30}}) {
		t.Errorf("points %v", got)
	}
}

// The third part of the order decides nothing, and the second neither, as long as this holds.
func TestP205AllPointsUnlike(t *testing.T) {
	seen := map[int]struct{}{}
	for server := range api.MaxId {
		for number := range api.MaxPoints {
			seen[sumOf(server+1, number)] = struct{}{}
		}
	}
	if len(seen) != api.MaxId*api.MaxPoints {
		t.Errorf("%d hashes of %d points", len(seen), api.MaxId*api.MaxPoints)
	}
}

func TestP206Group(t *testing.T) {
	for _, c := range several() {
		r, spots := made(t, c), spotsOf(c)
		for _, k := range someKeys(c) {
			hash := sumOf(k.Kind, k.A, k.B, k.C)
			if k.Kind == api.KInstance {
				hash = sumOf(api.KBucket, k.A, 0, 0)
			}
			if got, want := groupOf(t, r, k), walk(spots, hash, 2*c.F+1); !slices.Equal(got, want) {
				t.Fatalf("%v: Group(%v) = %v, want %v", c, k, got, want)
			}
		}
	}
}

func TestP206Examples(t *testing.T) {
	r := made(t, small())
	for _, c := range []struct {
		k    api.Key
		want []int
	}{
		{api.Key{Kind: api.KBucket, A: 0}, []int{20, 30, 10}},
		{api.Key{Kind: api.KBucket, A: 1}, []int{30, 10, 20}},
		{api.Key{Kind: api.KBucket, A: 2}, []int{10, 20, 30}},
		{api.Key{Kind: api.KBucket, A: 3}, []int{20, 30, 10}},
		{api.Key{Kind: api.KInstance, A: 3, B: 1}, []int{20, 30, 10}},
		{api.Key{Kind: api.KBlock, A: 7, B: 12, C: 3}, []int{20, 30, 10}},
	} {
		if got := groupOf(t, r, c.k); !slices.Equal(got, c.want) {
			t.Errorf("Group(%v) = %v, want %v", c.k, got, c.want)
		}
	}
}

func TestP206WrongKeys(t *testing.T) {
	r := made(t, small())
	for _, k := range []api.Key{
		{Kind: api.KBucket, A: 4}, {Kind: api.KBucket, A: -1}, {Kind: api.KBucket, B: 1}, {Kind: api.KBlock, B: 1}, {Kind: api.KBlock, A: 1, B: 1, C: api.MaxIndex},
		{Kind: api.KInstance}, {Kind: api.KInstance, A: 4, B: 1}, {Kind: api.KInstance, B: 1, C: 1}, {}, {Kind: 4}, {Kind: math.MinInt, A: math.MaxInt, B: -1, C: -1},
	} {
		if group, e := r.Group(k); e != api.ErrKey || len(group) != 0 {
			t.Errorf("Group(%v) = %v, %v", k, group, e)
		}
	}
}

// Behind the last point the first one comes.
func TestP206BeyondEveryPoint(t *testing.T) {
	c := small()
	c.Buckets = 256
	r := made(t, c)
	for _, c := range []struct{ k, home api.Key }{
		{api.Key{Kind: api.KBlock, A: 1, B: 1, C: 2}, api.Key{Kind: api.KBlock, A: 1, B: 1, C: 2}},
		{api.Key{Kind: api.KBucket, A: 8}, api.Key{Kind: api.KBucket, A: 8}},
		{api.Key{Kind: api.KInstance, A: 8, B: 5}, api.Key{Kind: api.KBucket, A: 8}},
	} {
		if ring.Hash(c.home) <= 3913697947 {
			t.Fatalf("%v is not beyond the last point", c.home)
		}
		if got := groupOf(t, r, c.k); !slices.Equal(got, []int{10, 20, 30}) {
			t.Errorf("Group(%v) = %v", c.k, got)
		}
	}
}

// A key whose hash is a point's has that point; one more, and it has the next.
func TestP206AtAPoint(t *testing.T) {
	r := made(t, great())
	for _, c := range []struct {
		k      api.Key
		hash   int
		server int
	}{
		{api.Key{Kind: 1, A: 163, B: 704243681291, C: 260145}, 39659876, 203},
		{api.Key{Kind: 1, A: 237, B: 1015956695723, C: 822204}, 2889300156, 15},
		{api.Key{Kind: 1, A: 41, B: 172925657083, C: 541484}, 1665070447, 191},
	} {
		if ring.Hash(c.k) != c.hash {
			t.Fatalf("Hash(%v) = %d", c.k, ring.Hash(c.k))
		}
		if got := groupOf(t, r, c.k); got[0] != c.server {
			t.Errorf("Group(%v) = %v, want %d first", c.k, got, c.server)
		}
	}
	behind, next := api.Key{Kind: 1, A: 177, B: 756825953681, C: 13911}, 0
	for hash, server := range r.Points() {
		if hash > 927812918 {
			next = server
			break
		}
	}
	if got := groupOf(t, r, behind); ring.Hash(behind) != 927812919 || got[0] != next || next == 207 {
		t.Errorf("Group(%v) = %v, want %d first", behind, got, next)
	}
}

// All instances of a bucket have its group, wherever their own hashes are.
func TestP206InstanceHasItsBucketsGroup(t *testing.T) {
	r := made(t, great())
	for a := range api.MaxBuckets {
		want := groupOf(t, r, api.Key{Kind: api.KBucket, A: a})
		for _, b := range []int{1, 2, 77, api.MaxInstance} {
			if got := groupOf(t, r, api.Key{Kind: api.KInstance, A: a, B: b}); !slices.Equal(got, want) {
				t.Fatalf("instance %d of bucket %d: %v, want %v", b, a, got, want)
			}
		}
	}
}

func TestP207Bucket(t *testing.T) {
	r := made(t, small())
	if a, b := r.Bucket("plum"), r.Bucket(""); a != 3 || b != 1 {
		t.Errorf("example 4: Bucket: %d, %d", a, b)
	}
	for _, c := range several() {
		r := made(t, c)
		for _, name := range []string{"", "a", "b", "plum", "a/b", "\x00", "\xff\xfe", "žluť", "日本", strings.Repeat("x", 255), strings.Repeat("long", 1<<14)} {
			if got, want := r.Bucket(name), sum([]byte(name))%c.Buckets; got != want {
				t.Errorf("%d buckets: Bucket(%.9q) = %d, want %d", c.Buckets, name, got, want)
			}
		}
	}
}

func TestP208Share(t *testing.T) {
	r := made(t, small())
	for server, hashes := range map[int]float64{10: 2343953652, 20: 1562635768, 30: 388377876, 40: 0, 0: 0, -1: 0, 256: 0, math.MinInt: 0} {
		if got := r.Share(server); got != hashes/circle {
			t.Errorf("Share(%d) times all hashes = %v, want %v", server, got*circle, hashes)
		}
	}
}

func TestP208ShareToTheLastBit(t *testing.T) {
	for _, c := range several() {
		hashes, last := map[int]int{}, 0
		spots := spotsOf(c)
		for _, p := range spots {
			hashes[p.server] += p.hash + 1 - last
			last = p.hash + 1
		}
		hashes[spots[0].server] += circle - last
		r := made(t, c)
		for server := range 258 {
			if got, want := r.Share(server), float64(hashes[server])/circle; got != want {
				t.Fatalf("%v: Share(%d) times all hashes = %v, want %v", c, server, got*circle, want*circle)
			}
		}
	}
}

func TestP208AloneItHasAll(t *testing.T) {
	if got := made(t, least()).Share(1); got != 1 {
		t.Errorf("Share(1) = %v", got)
	}
}

func TestP209(t *testing.T) {
	for _, c := range several() {
		r := made(t, c)
		for _, k := range someKeys(c) {
			seen := map[int]struct{}{}
			group := groupOf(t, r, k)
			for _, server := range group {
				seen[server] = struct{}{}
				if !slices.Contains(c.Servers, server) {
					t.Fatalf("%v: %d of Group(%v) is no server", c, server, k)
				}
			}
			if len(seen) != 2*c.F+1 || len(group) != 2*c.F+1 {
				t.Fatalf("%v: Group(%v) = %v", c, k, group)
			}
		}
		all := 0.0
		for _, server := range c.Servers {
			all += r.Share(server)
		}
		if all != 1 {
			t.Errorf("%v: the shares are %v together", c, all)
		}
	}
}

func TestP210OrderOfServers(t *testing.T) {
	for _, c := range several() {
		turned := c
		turned.Servers = slices.Clone(c.Servers)
		slices.Reverse(turned.Servers)
		half := len(c.Servers) / 2
		cut := c
		cut.Servers = append(slices.Clone(c.Servers[half:]), c.Servers[:half]...)
		r := made(t, c)
		for _, d := range []api.Config{turned, cut} {
			mustBeAlike(t, r, made(t, d), c)
		}
	}
}

func mustBeAlike(t *testing.T, r, s *ring.Ring, c api.Config) {
	t.Helper()
	if !reflect.DeepEqual(r.Config(), s.Config()) {
		t.Fatalf("configurations %v, %v", r.Config(), s.Config())
	}
	if !slices.Equal(pointsOf(r), pointsOf(s)) {
		t.Fatalf("%v: other points", c)
	}
	for _, k := range someKeys(c) {
		if a, b := groupOf(t, r, k), groupOf(t, s, k); !slices.Equal(a, b) {
			t.Fatalf("%v: groups of %v: %v, %v", c, k, a, b)
		}
	}
	for _, server := range c.Servers {
		if r.Share(server) != s.Share(server) {
			t.Fatalf("%v: other share of %d", c, server)
		}
	}
}

func pointsOf(r *ring.Ring) [][2]int {
	var list [][2]int
	for hash, server := range r.Points() {
		list = append(list, [2]int{hash, server})
	}
	return list
}

func TestP210GreaterF(t *testing.T) {
	for _, c := range several() {
		for _, k := range someKeys(c) {
			var shorter []int
			for f := 0; f <= api.MaxF && 2*f+1 <= len(c.Servers); f++ {
				d := c
				d.F = f
				longer := groupOf(t, made(t, d), k)
				if len(longer) != 2*f+1 || !slices.Equal(longer[:len(shorter)], shorter) {
					t.Fatalf("%v: F %d: Group(%v) = %v behind %v", c, f, k, longer, shorter)
				}
				shorter = longer
			}
			if len(c.Servers) == api.MaxServers { // its ring takes long to make: a few keys will do
				break
			}
		}
	}
}

func TestP211OneServerMore(t *testing.T) {
	for i, c := range several() {
		if len(c.Servers) == api.MaxServers {
			c.Servers = c.Servers[:api.MaxServers-1]
		}
		more := 1 + i*53%255
		for slices.Contains(c.Servers, more) {
			more = more%255 + 1
		}
		d := c
		d.Servers = append(slices.Clone(c.Servers), more)
		mustGrow(t, c, made(t, c), made(t, d), more)
	}
}

func mustGrow(t *testing.T, c api.Config, r, s *ring.Ring, more int) {
	t.Helper()
	for _, k := range someKeys(c) {
		old, now := groupOf(t, r, k), groupOf(t, s, k)
		if i := slices.Index(now, more); i >= 0 {
			now = slices.Delete(now, i, i+1)
			old = old[:len(old)-1]
		}
		if !slices.Equal(old, now) {
			t.Fatalf("%v and %d: Group(%v): %v, without it %v", c, more, k, old, now)
		}
	}
	for _, server := range c.Servers {
		if s.Share(server) > r.Share(server) {
			t.Fatalf("%v and %d: the share of %d grew", c, more, server)
		}
	}
}
