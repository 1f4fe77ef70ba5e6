package stable_test

import (
	"testing"

	"cairn/api"
	"cairn/disk"
	"cairn/stable"
)

// The chapter's examples, one behind the other over one disk.
func TestExamples(t *testing.T) {
	d := made(t, 12)
	s := opened(t, d, most)
	example1(t)
	example2(t, s)
	example3(t, s)
	example4(t, s)
	s = example5(t, s, d)
	example6(t, s, d)
}

func example1(t *testing.T) {
	t.Helper()
	for kind, want := range map[int]int{api.KBlock: 2, api.KBucket: 6, api.KInstance: 2, 0: 0, 4: 0} {
		if got := stable.Width(kind, most); got != want {
			t.Errorf("Width(%d): %d, want %d", kind, got, want)
		}
	}
	for n, want := range map[int]int{1344: 6, 1345: 8} {
		m := most
		m[api.KBucket] = n
		if got := stable.Width(api.KBucket, m); got != want {
			t.Errorf("Width with %d: %d, want %d", n, got, want)
		}
	}
}

func example2(t *testing.T, s *stable.Store) {
	t.Helper()
	mustPut(t, s, block(0), "five.", api.OK)
	mustTake(t, s, 2)
	if s.Len() != 1 {
		t.Errorf("Len %d", s.Len())
	}
	mustPut(t, s, bucket(3), text(1000, 1), api.OK)
	mustTake(t, s, 8)
	if !s.Fits(api.KBlock, api.KInstance) || s.Fits(api.KBucket) || !s.Fits() || s.Fits(0) {
		t.Errorf("Fits: %v %v %v %v", s.Fits(api.KBlock, api.KInstance), s.Fits(api.KBucket), s.Fits(), s.Fits(0))
	}
}

func example3(t *testing.T, s *stable.Store) {
	t.Helper()
	mustPut(t, s, bucket(4), "", api.ErrFull)
	mustPut(t, s, bucket(3), "7 bytes", api.OK)
	mustTake(t, s, 8)
	mustPut(t, s, block(0), "11 bytes...", api.ErrLong)
	mustPut(t, s, instance(3, 1), "", api.OK)
	mustGet(t, s, instance(3, 1), "")
}

func example4(t *testing.T, s *stable.Store) {
	t.Helper()
	mustDrop(t, s, bucket(3), api.OK)
	mustDrop(t, s, bucket(3), api.OK)
	mustTake(t, s, 4)
	mustDrop(t, s, bucket(256), api.ErrKey)
	mustPut(t, s, api.Key{Kind: api.KBlock, A: 0, B: 1, C: 0}, "", api.ErrKey)
}

func example5(t *testing.T, s *stable.Store, d *disk.Disk) *stable.Store {
	t.Helper()
	s.Limit(4)
	mustPut(t, s, block(1), "", api.ErrFull)
	mustPut(t, s, block(0), "10 bytes..", api.OK)
	s = opened(t, d, most)
	if !s.Fits(api.KBlock) {
		t.Error("a Store opened anew has a Limit")
	}
	return s
}

func example6(t *testing.T, s *stable.Store, d *disk.Disk) {
	t.Helper()
	d.Arm(0, 100)
	mustPut(t, s, block(0), "new", api.ErrFallen)
	mustNotGet(t, s, block(0))
	if s.Len() != 0 {
		t.Errorf("Len %d", s.Len())
	}
	mustPut(t, s, block(0), "new", api.ErrFallen)
	mustDrop(t, s, block(0), api.ErrFallen)
	d.Start()
	mustPut(t, s, block(0), "new", api.ErrFallen)
	mustDrop(t, s, block(0), api.ErrFallen)
	now := opened(t, d, most)
	mustGet(t, now, instance(3, 1), "")
	if b, ok := now.Get(block(0)); !ok || string(b) != "10 bytes.." && string(b) != "new" {
		t.Errorf("%q, %v", b, ok)
	}
}
