package audit_test

import (
	"fmt"
	"testing"

	"cairn/api"
	"cairn/audit"
	"cairn/disk"
	"cairn/server"
	"cairn/stable"
)

// full is a server's disk of all sectors that there may be, with what is laid on it.
func full(t testing.TB, c api.Config, id int, lay func(put func(k api.Key, what any))) api.Image {
	t.Helper()
	d, err := disk.New(api.MaxSectors)
	if err != api.OK {
		t.Fatal(err)
	}
	s, err := stable.Open(d, server.Most(c))
	if err != api.OK {
		t.Fatal(err)
	}
	lay(func(k api.Key, what any) {
		if err := s.Put(k, packed(c, what)); err != api.OK {
			t.Fatalf("%v: %v", k, err)
		}
	})
	return api.Image{Server: id, Data: d.Image()}
}

// A bucket's long row is gone through in good time, however many trimmed ones there are, and though each of its commands is answered with all entries.
func TestP1903LongRow(t *testing.T) {
	t.Parallel()
	const length = 30000
	c := api.Config{Servers: []int{1, 2, 3, 4, 5, 6, 7}, F: 3, Points: 1, Buckets: 1, Block: 1, Room: api.MaxRoom}
	var row []api.Command
	for n := range length {
		w := api.Command{Kind: api.CList, Client: 1 + n%api.MaxId, Op: n + 1}
		if n < api.MaxRoom {
			w = create(1+n%api.MaxId, n+1, fmt.Sprintf("%0255d", n))
		}
		row = append(row, w)
	}
	l := []api.Image{full(t, c, 1, func(put func(k api.Key, what any)) {
		for n, w := range row {
			put(at(0, n+1), decided(w))
		}
	})}
	b := api.Bucket{}
	for id := 2; id <= 7; id++ {
		b = madeInParts(c, b, row[b.Upto:(id-1)*length/6]...)
		l = append(l, image(c, id, records{dir(0): b}))
	}
	for _, workers := range []int{1, api.MaxWorkers} {
		if found, err := audit.Run(c, l, workers); err != api.OK || len(found) > 0 {
			t.Fatalf("Run: %v, %v", found, err)
		}
	}
	mustBeNewestBucket(t, c, l, 0, b)
	mustBeNewestBucket(t, c, l[:1], 0, b)
	// the last one is another one
	b.Entries[17].Size = 1
	l[6] = image(c, 7, records{dir(0): b})
	if found, err := audit.Run(c, l, 2); err != api.OK || len(found) != 1 || found[0] != fault(api.FBucket, dir(0)) {
		t.Fatalf("Run: %v, %v", found, err)
	}
}

// madeInParts forgets the answers of each part ahead of the next one.
func madeInParts(c api.Config, b api.Bucket, l ...api.Command) api.Bucket {
	for len(l) > 0 {
		n := min(len(l), 100)
		b, l = madeFrom(c, b, l[:n]...), l[n:]
	}
	return b
}

// Full disks with many keys, each with a fault.
func TestP1902ManyKeys(t *testing.T) {
	t.Parallel()
	const keys = 10000
	c := three()
	var l []api.Image
	for id := 1; id <= 3; id++ {
		l = append(l, full(t, c, id, func(put func(k api.Key, what any)) {
			for n := range keys {
				put(blockAt(n), written(1, 1, byte(id), 2, 3))
				put(at(n%2, n+1), decided(create(id, 1, "a")))
				put(api.Key{Kind: api.KInstance, A: 2 + n%254, B: n + 1}, []byte{byte(n)})
			}
		}))
	}
	for _, workers := range []int{1, 3, api.MaxWorkers} {
		found, err := audit.Run(c, l, workers)
		if err != api.OK || len(found) != 3*keys {
			t.Fatalf("Run: %d, %v", len(found), err)
		}
		for i, f := range found {
			if i < keys && f != fault(api.FTag, blockAt(i)) {
				t.Fatalf("the fault %d: %v", i, f)
			}
			if i >= keys && i < 2*keys && (f.Kind != api.FSplit || f.Key.A > 1) || i >= 2*keys && (f.Kind != api.FRecord || f.Key.A < 2) {
				t.Fatalf("the fault %d: %v", i, f)
			}
		}
	}
}
