package audit_test

import (
	"slices"
	"testing"

	"cairn/api"
	"cairn/audit"
	"cairn/ring"
)

// faultsOf is what Run tells, with some number of workers.
func faultsOf(t testing.TB, c api.Config, l []api.Image) []api.Fault {
	t.Helper()
	found, err := audit.Run(c, l, 1+len(l)%api.MaxWorkers)
	if err != api.OK {
		t.Fatal(err)
	}
	return found
}

// All kinds that one key may have, in their order.
func TestP1902SeveralKindsAtOneKey(t *testing.T) {
	c := seven()
	k := at(0, 2)
	bad := []byte{1, 2}
	mustFind(t, c, of(c, k, append(times(4, accepted(3, 7, x())), accepted(4, 1, y()), decided(z()), bad)...),
		fault(api.FSplit, k), fault(api.FLater, k), fault(api.FRecord, k))
	mustFind(t, c, of(c, k, append(times(4, accepted(3, 7, x())), accepted(4, 1, y()), bad, bad)...), fault(api.FLater, k), fault(api.FRecord, k))
	mustFind(t, c, of(c, blockAt(0), written(1, 1, 1), bad, written(1, 1, 2)), fault(api.FTag, blockAt(0)), fault(api.FRecord, blockAt(0)))
	mustFind(t, c, of(c, dir(0), bad, made(c, x()), made(c, z()), bad), fault(api.FBucket, dir(0)), fault(api.FRecord, dir(0)))
	mustFind(t, c, images(c, dir(0), records{dir(0): bad}, records{dir(0): made(c, x())}, known(0, 1, z())), fault(api.FBucket, dir(0)), fault(api.FRecord, dir(0)))
}

// many are disks with faults of all kinds at many keys, and what is to be told of them.
func many(c api.Config) ([]api.Image, []api.Fault) {
	disks := map[int]records{}
	lay := func(id int, k api.Key, what any) {
		if disks[id] == nil {
			disks[id] = records{}
		}
		disks[id][k] = what
	}
	var want []api.Fault
	for index := range 12 {
		k := blockAt(index * 7 % 12)
		for place, id := range groupOf(c, k) {
			lay(id, k, written(1, 1, bytesOf(c, byte(index%3*place))...))
		}
		if index%3 != 0 {
			want = append(want, fault(api.FTag, k))
		}
	}
	for number := range c.Buckets {
		group := groupOf(c, dir(number))
		lay(group[0], dir(number), made(c, x()))
		lay(group[1], dir(number), made(c, z()))
		want = append(want, fault(api.FBucket, dir(number)))
		for n := 2; n < 30; n++ {
			switch k := at(number, n); n % 5 {
			case 0:
				lay(group[0], k, decided(x()))
				lay(group[2], k, decided(y()))
				want = append(want, fault(api.FSplit, k))
			case 1:
				for _, id := range group[:c.F+1] {
					lay(id, k, accepted(2, 2, x()))
				}
				lay(group[c.F+1], k, accepted(2, 3, y()))
				want = append(want, fault(api.FLater, k))
			case 2:
				lay(group[2], k, []byte{byte(n)})
				want = append(want, fault(api.FRecord, k))
			case 3:
				lay(group[1], k, decided(z()))
			}
		}
	}
	var l []api.Image
	for _, id := range c.Servers {
		l = append(l, image(c, id, disks[id]))
	}
	slices.SortFunc(want, func(a, b api.Fault) int {
		if ring.Less(a.Key, b.Key) {
			return -1
		}
		return 1
	})
	return l, want
}

// The order of the keys is ring.Less', whoever of the workers has found what.
func TestP1902OrderOfManyFaults(t *testing.T) {
	t.Parallel()
	for _, c := range []api.Config{three(), wide(), five(), seven()} {
		l, want := many(c)
		mustFind(t, c, l, want...)
	}
}

// Every number of workers, every order of the images: one answer.
func TestP1905Same(t *testing.T) {
	t.Parallel()
	c := three()
	l, want := many(c)
	for _, order := range [][]int{{0, 1, 2}, {0, 2, 1}, {1, 0, 2}, {1, 2, 0}, {2, 0, 1}, {2, 1, 0}} {
		turned := []api.Image{l[order[0]], l[order[1]], l[order[2]]}
		for workers := 1; workers <= api.MaxWorkers; workers++ {
			for range 3 {
				found, err := audit.Run(c, turned, workers)
				if err != api.OK || !slices.Equal(found, want) {
					t.Fatalf("with %d workers, the images as %v: %v, %v, not %v", workers, order, found, err, want)
				}
			}
		}
	}
}

// The order of the configuration's servers changes nothing (W2), of Newest neither.
func TestP1905OrderOfServers(t *testing.T) {
	c := wide()
	l, want := many(c)
	newest, _, _ := audit.Newest(c, l, blockAt(1))
	for range c.Servers {
		c.Servers = append(slices.Clone(c.Servers[1:]), c.Servers[0])
		mustFind(t, c, l, want...)
		mustBeNewestBlock(t, c, l, blockAt(1), newest)
	}
}
