package audit_test

import (
	"slices"
	"testing"

	"cairn/api"
	"cairn/msg"
	"cairn/wire"
)

// fine is a record that is one, of a key's kind.
func fine(c api.Config, k api.Key) any {
	switch k.Kind {
	case api.KBlock:
		return written(1, 1, bytesOf(c, 1)...)
	case api.KBucket:
		return made(c, create(4, 1, "a"))
	}
	return decided(create(4, 1, "a"))
}

// readAs is what msg answers to bytes as a record of a kind.
func readAs(c api.Config, kind int, b []byte) api.Errno {
	var err api.Errno
	switch kind {
	case api.KBlock:
		_, err = msg.ReadBlock(b, c)
	case api.KBucket:
		_, err = msg.ReadBucket(b, c)
	case api.KInstance:
		_, err = msg.ReadInstance(b, c)
	}
	return err
}

// wrongRecords are refused by msg's calls, but have not too many bytes for their kind.
func wrongRecords(c api.Config, kind int) [][]byte {
	good := packed(c, fine(c, api.Key{Kind: kind}))
	body, _ := wire.Open(good)
	list := [][]byte{
		nil, {0}, {1, 2}, []byte("junk"), make([]byte, 12), // ErrCut
		good[:len(good)-1], good[:7], good[1:],
		append(append([]byte(nil), good...), 0),       // ErrForm: too many
		wire.Seal(nil), wire.Seal(body[:len(body)-1]), // no body of one
		wire.Seal(append(append([]byte(nil), body...), 0)),
	}
	for i := range good {
		flipped := append([]byte(nil), good...)
		flipped[i] ^= 1 // ErrSum, ErrLong, ErrCut
		list = append(list, flipped)
	}
	switch kind {
	case api.KBlock:
		list = append(list, wire.Seal(append([]byte{0, 0, byte(c.Block)}, bytesOf(c, 7)...))) // bytes that nobody has written
		short := c
		if short.Block--; short.Block > 0 {
			list = append(list, packed(short, written(1, 1, bytesOf(short, 1)...)))
		}
	case api.KBucket:
		list = append(list, wire.Seal([]byte{0, 0, 1}), wire.Seal([]byte{1, 2, 0, 0}), packed(c, zeros(c)))
	case api.KInstance:
		list = append(list, wire.Seal([]byte{1, 1, 2, 1, 0, 0}), wire.Seal([]byte{0, 0, 0, 0, 0, 1}), wire.Seal([]byte{0, 0, 0, 0, 0, 2}), packed(c, made(c, x())))
	}
	return list
}

// What ReadBlock, ReadBucket and ReadInstance refuse, each for its own kind.
func TestP1902Refused(t *testing.T) {
	for _, c := range configs() {
		for _, k := range []api.Key{blockAt(0), dir(0), at(0, 1), at(0, api.MaxInstance)} {
			for _, b := range wrongRecords(c, k.Kind) {
				if readAs(c, k.Kind, b) == api.OK {
					t.Fatalf("%v is a record of %v", b, k)
				}
				l := of(c, k, b)
				if found := faultsOf(t, c, l); len(found) != 1 || found[0] != fault(api.FRecord, k) {
					t.Fatalf("%v under %v: %v", b, k, found)
				}
			}
			mustFind(t, c, of(c, k, fine(c, k)))
		}
	}
}

// A record of another kind than its key's.
func TestP1902OfAnotherKind(t *testing.T) {
	c := three()
	c.Block = 200 // so that each of them has room under each key
	for _, k := range []api.Key{blockAt(0), dir(0), at(0, 1)} {
		for _, other := range []api.Key{blockAt(0), dir(0), at(0, 1)} {
			if k != other {
				mustFind(t, c, of(c, k, packed(c, fine(c, other))), fault(api.FRecord, k))
			}
		}
	}
}

// A record of another configuration: of a block with other bytes, of a bucket with too many entries, of a size that no file has.
func TestP1902OfAnotherConfiguration(t *testing.T) {
	c, d := three(), three()
	d.Block, d.Room = 2, 9
	many := made(d, create(1, 1, "a"), create(1, 2, "b"), create(1, 3, "c"))
	mustFind(t, c, of(c, blockAt(0), packed(d, written(1, 1, 1, 2))), fault(api.FRecord, blockAt(0)))
	mustFind(t, c, of(c, dir(0), packed(d, many)), fault(api.FRecord, dir(0)))
	d.Block = 4
	large := replace()
	large.Size = api.MaxIndex * 4
	mustFind(t, c, of(c, at(0, 1), packed(d, decided(large))), fault(api.FRecord, at(0, 1)))
	mustFind(t, c, of(c, blockAt(0), packed(d, written(1, 1, 1, 2, 3, 4))), fault(api.FRecord, blockAt(0)))
}

// Keys that are not right: those of buckets that the configuration has not.
func TestP1902WrongKeys(t *testing.T) {
	for _, c := range configs() {
		for _, number := range []int{c.Buckets, c.Buckets + 1, 255} {
			for _, k := range []api.Key{dir(number), at(number, 1), at(number, api.MaxInstance)} {
				for _, id := range c.Servers {
					mustFind(t, c, []api.Image{image(c, id, records{k: fine(c, k)})}, fault(api.FRecord, k))
				}
			}
		}
		last := c.Buckets - 1
		mustFind(t, c, images(c, dir(last), records{dir(last): fine(c, dir(last)), at(last, 2): fine(c, at(last, 2))}))
	}
}

// A server that does not stand in the key's group.
func TestP1902Strangers(t *testing.T) {
	for _, c := range []api.Config{alone(), wide()} {
		for _, k := range []api.Key{blockAt(0), blockAt(7), dir(0), dir(2), at(0, 1), at(2, 9)} {
			group := groupOf(c, k)
			for _, id := range c.Servers {
				var want []api.Fault
				if !slices.Contains(group, id) {
					want = append(want, fault(api.FRecord, k))
				}
				mustFind(t, c, []api.Image{image(c, id, records{k: fine(c, k)})}, want...)
			}
		}
	}
}

// What is none counts for nothing else.
func TestP1902NoneCountsForNothing(t *testing.T) {
	c := wide()
	k, b := at(0, 1), blockAt(0)
	group := groupOf(c, k)
	far := stranger(c, group)
	none := fault(api.FRecord, k)
	mustFind(t, c, []api.Image{image(c, far, records{k: decided(x())}), image(c, group[0], records{k: decided(y())})}, none)
	mustFind(t, c, []api.Image{image(c, far, records{k: accepted(3, 7, x())}), image(c, group[0], records{k: accepted(3, 7, x())}), image(c, group[1], records{k: decided(y())})}, none)
	mustFind(t, c, []api.Image{image(c, group[2], records{k: accepted(3, 7, x())}), image(c, group[0], records{k: accepted(3, 7, x())}), image(c, far, records{k: accepted(4, 1, y())})}, none)
	mustFind(t, c, []api.Image{image(c, far, records{dir(0): made(c, x())}), image(c, group[0], records{dir(0): made(c, z())})}, fault(api.FRecord, dir(0)))
	mustFind(t, c, []api.Image{image(c, far, records{dir(0): made(c, x())}), image(c, group[0], known(0, 1, z()))}, fault(api.FRecord, dir(0)))
	mustFind(t, c, []api.Image{image(c, group[1], records{dir(0): made(c, x(), y())}), image(c, far, known(0, 1, z())), image(c, group[0], known(0, 2, y()))}, none)
	blocks := groupOf(c, b)
	mustFind(t, c, []api.Image{image(c, stranger(c, blocks), records{b: written(1, 1, 1, 1)}), image(c, blocks[0], records{b: written(1, 1, 2, 2)})}, fault(api.FRecord, b))
}

// A forgotten instance whose record is none is told all the same.
func TestP1902NoneAndForgotten(t *testing.T) {
	c := three()
	b := made(c, x(), y())
	for n := 1; n <= 3; n++ {
		mustFind(t, c, images(c, dir(1), records{dir(1): b, at(1, n): []byte{1, 2}}), fault(api.FRecord, at(1, n)))
		mustFind(t, c, images(c, dir(1), records{dir(1): b, at(1, n): api.Instance{}}))
	}
}

// The zero instance that lies there is a record that is one.
func TestP1902ZeroInstancesThatLieThere(t *testing.T) {
	for _, c := range configs() {
		mustFind(t, c, of(c, at(0, 1), api.Instance{}))
		mustFind(t, c, of(c, at(0, 1), times(2*c.F+1, api.Instance{})...))
	}
}

// One key's records on several disks, all none, are one fault; of several keys each is told.
func TestP1902EachOnce(t *testing.T) {
	c := three()
	bad := []byte{1, 2}
	mustFind(t, c, of(c, at(1, 1), bad, bad, bad), fault(api.FRecord, at(1, 1)))
	mustFind(t, c, of(c, at(1, 1), bad, nil, []byte{3}), fault(api.FRecord, at(1, 1)))
	all := records{blockAt(0): bad, blockAt(1): bad, dir(0): bad, dir(9): bad, at(0, 1): bad, at(0, 2): bad, at(1, 1): bad}
	want := []api.Fault{
		fault(api.FRecord, blockAt(0)), fault(api.FRecord, blockAt(1)), fault(api.FRecord, dir(0)), fault(api.FRecord, dir(9)),
		fault(api.FRecord, at(0, 1)), fault(api.FRecord, at(0, 2)), fault(api.FRecord, at(1, 1)),
	}
	mustFind(t, c, images(c, dir(0), all), want...)
	mustFind(t, c, images(c, dir(0), all, all, all), want...)
}
