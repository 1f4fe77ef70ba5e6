package stable_test

import (
	"bytes"
	"fmt"
	"maps"
	"slices"
	"testing"

	"cairn/api"
	"cairn/disk"
	"cairn/ring"
	"cairn/stable"
)

// most is that of the chapter's examples: widths 2, 6, 2.
var most = stable.Most{9, 10, 1000, 0}

// wide has records of one, two and three sectors: widths 2, 4, 6.
var wide = stable.Most{-1, 448, 896, 1344}

func block(c int) api.Key { return api.Key{Kind: api.KBlock, A: 1, B: 1, C: c} }

func bucket(a int) api.Key { return api.Key{Kind: api.KBucket, A: a} }

func instance(a, b int) api.Key { return api.Key{Kind: api.KInstance, A: a, B: b} }

// tooLong has more bytes than any record may have.
var tooLong = make([]byte, api.MaxBytes+1)

// text is a record of so many bytes: neighbouring bytes are unlike, and so are texts of unlike salts.
func text(n, salt int) string {
	b := make([]byte, n)
	for i := range b {
		b[i] = byte(i*7 + i/251 + salt*29)
	}
	return string(b)
}

func made(t *testing.T, sectors int) *disk.Disk {
	t.Helper()
	d, err := disk.New(sectors)
	if err != api.OK {
		t.Fatalf("New(%d): %v", sectors, err)
	}
	return d
}

func loaded(t *testing.T, image []byte) *disk.Disk {
	t.Helper()
	d, err := disk.Load(image)
	if err != api.OK {
		t.Fatalf("Load of %d bytes: %v", len(image), err)
	}
	return d
}

// opened is a Store over the disk; opening it must not write.
func opened(t *testing.T, d *disk.Disk, m stable.Most) *stable.Store {
	t.Helper()
	writes, image := d.Counts().Writes, d.Image()
	s, err := stable.Open(d, m)
	if err != api.OK || s == nil {
		t.Fatalf("Open: %v, %v", s, err)
	}
	if d.Counts().Writes != writes || !bytes.Equal(d.Image(), image) {
		t.Fatalf("Open has written")
	}
	return s
}

func mustPut(t *testing.T, s *stable.Store, k api.Key, record string, want api.Errno) {
	t.Helper()
	if err := s.Put(k, []byte(record)); err != want {
		t.Fatalf("Put(%v, %d bytes): %v, want %v", k, len(record), err, want)
	}
}

func mustDrop(t *testing.T, s *stable.Store, k api.Key, want api.Errno) {
	t.Helper()
	if err := s.Drop(k); err != want {
		t.Fatalf("Drop(%v): %v, want %v", k, err, want)
	}
}

func mustGet(t *testing.T, s *stable.Store, k api.Key, want string) {
	t.Helper()
	if b, ok := s.Get(k); !ok || string(b) != want {
		t.Fatalf("Get(%v): %d bytes, %v, want %d bytes, or the bytes are others", k, len(b), ok, len(want))
	}
}

func mustNotGet(t *testing.T, s *stable.Store, k api.Key) {
	t.Helper()
	if b, ok := s.Get(k); ok || len(b) != 0 {
		t.Fatalf("Get(%v): %d bytes, %v, want none", k, len(b), ok)
	}
}

func mustTake(t *testing.T, s *stable.Store, want int) {
	t.Helper()
	if got := s.Taken(); got != want {
		t.Fatalf("Taken %d, want %d", got, want)
	}
}

// records is what a Store has.
type records map[api.Key]string

// widths are what its keys take, all together.
func (r records) widths(m stable.Most) int {
	sum := 0
	for k := range r {
		sum += stable.Width(k.Kind, m)
	}
	return sum
}

// with is what there is when that record is under k; without, when none is.
func (r records) with(k api.Key, record string) records {
	now := maps.Clone(r)
	now[k] = record
	return now
}

func (r records) without(k api.Key) records {
	now := maps.Clone(r)
	delete(now, k)
	return now
}

// told is what All tells of a Store.
func told(s *stable.Store) records {
	got := records{}
	for k, b := range s.All() {
		got[k] = string(b)
	}
	return got
}

// fault says in which way a Store has not just these records; "", if it has.
func fault(s *stable.Store, m stable.Most, want records) string {
	var keys []api.Key
	for k, b := range s.All() {
		if record, ok := want[k]; !ok || string(b) != record {
			return fmt.Sprintf("All tells %d bytes under %v, which are not what lies there (%v)", len(b), k, ok)
		}
		keys = append(keys, k)
	}
	for i := range keys {
		if i > 0 && !ring.Less(keys[i-1], keys[i]) {
			return fmt.Sprintf("All tells %v ahead of %v", keys[i-1], keys[i])
		}
	}
	for k, record := range want {
		if b, ok := s.Get(k); !ok || string(b) != record {
			return fmt.Sprintf("Get(%v): %d bytes, %v, which is not what lies there", k, len(b), ok)
		}
	}
	if len(keys) != len(want) || s.Len() != len(want) || s.Taken() != want.widths(m) {
		return fmt.Sprintf("All tells %d, Len %d, Taken %d; there are %d, which take %d", len(keys), s.Len(), s.Taken(), len(want), want.widths(m))
	}
	return ""
}

func mustHave(t *testing.T, s *stable.Store, m stable.Most, want records) {
	t.Helper()
	if f := fault(s, m, want); f != "" {
		t.Fatal(f)
	}
}

// mustBeFallen: the Store tells nothing any more, and refuses all.
func mustBeFallen(t *testing.T, s *stable.Store) {
	t.Helper()
	if f := fallenFault(s); f != "" {
		t.Fatal(f)
	}
}

func fallenFault(s *stable.Store) string {
	for range 2 {
		for _, k := range []api.Key{block(0), bucket(3), instance(3, 1), {}} {
			if b, ok := s.Get(k); ok || len(b) != 0 {
				return fmt.Sprintf("a fallen Store's Get(%v): %d bytes, %v", k, len(b), ok)
			}
			if a, b := s.Put(k, nil), s.Drop(k); a != api.ErrFallen || b != api.ErrFallen {
				return fmt.Sprintf("a fallen Store's Put(%v), Drop(%v): %v, %v", k, k, a, b)
			}
			if err := s.Put(k, tooLong); err != api.ErrFallen {
				return fmt.Sprintf("a fallen Store's Put of too many bytes: %v", err)
			}
		}
		if len(told(s)) != 0 || s.Len() != 0 || s.Taken() != 0 || s.Fits() || s.Fits(api.KBlock) || s.Fits(0) {
			return fmt.Sprintf("a fallen Store: All %v, Len %d, Taken %d, Fits %v %v", told(s), s.Len(), s.Taken(), s.Fits(), s.Fits(api.KBlock))
		}
		s.Limit(1000)
	}
	return ""
}

// step is a Put, or a Drop, as a value.
type step struct {
	key    api.Key
	record string
	drop   bool
}

func (p step) String() string {
	if p.drop {
		return fmt.Sprintf("Drop(%v)", p.key)
	}
	return fmt.Sprintf("Put(%v, %d bytes)", p.key, len(p.record))
}

func (p step) on(s *stable.Store) api.Errno {
	if p.drop {
		return s.Drop(p.key)
	}
	return s.Put(p.key, []byte(p.record))
}

// behind is what there is when the step was OK.
func (p step) behind(r records) records {
	if p.drop {
		return r.without(p.key)
	}
	return r.with(p.key, p.record)
}

// wanted is what the step is answered, with these records, that room, and no fall.
func (p step) wanted(r records, m stable.Most, room int) api.Errno {
	if p.drop {
		return api.OK
	}
	if len(p.record) > m[p.key.Kind] {
		return api.ErrLong
	}
	if _, ok := r[p.key]; !ok && r.widths(m)+stable.Width(p.key.Kind, m) > room {
		return api.ErrFull
	}
	return api.OK
}

// chance is a row of numbers by a fixed rule.
type chance uint64

func (c *chance) below(n int) int {
	*c = *c*6364136223846793005 + 1442695040888963407
	return int(*c>>33) % n
}

// someStep is a Put or a Drop of one of a few keys of all kinds; lengths are often at an edge.
func (c *chance) someStep(m stable.Most) step {
	keys := []api.Key{block(0), block(1), block(2), bucket(0), bucket(1), instance(0, 1), instance(0, 2), instance(1, 1)}
	k := keys[c.below(len(keys))]
	if c.below(4) == 0 {
		return step{key: k, drop: true}
	}
	length := c.below(m[k.Kind] + 1)
	if c.below(2) == 0 {
		edges := []int{0, 1, 447, 448, 449, 896, 897, m[k.Kind], m[k.Kind] + 1}
		length = min(edges[c.below(len(edges))], m[k.Kind]+1)
	}
	return step{key: k, record: text(length, c.below(200))}
}

func sortedKeys(r records) []api.Key {
	keys := slices.Collect(maps.Keys(r))
	slices.SortFunc(keys, func(a, b api.Key) int {
		if ring.Less(a, b) {
			return -1
		}
		return 1
	})
	return keys
}
