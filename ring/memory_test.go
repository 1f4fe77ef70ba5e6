package ring_test

import (
	"reflect"
	"slices"
	"testing"

	"cairn/api"
	"cairn/ring"
)

// spoil fills a list, its spare room too.
func spoil(list []int) {
	list = list[:cap(list)]
	for i := range list {
		list[i] = -7
	}
}

func TestP2NewKeepsAndChangesNothing(t *testing.T) {
	room := []int{30, 10, 20, 99, 98}
	c := small()
	c.Servers = room[:3]
	r := made(t, c)
	if !slices.Equal(room, []int{30, 10, 20, 99, 98}) {
		t.Fatalf("what was handed in is now %v", room)
	}
	spoil(room)
	mustBeAlike(t, made(t, small()), r, small())
}

func TestP2AnswersAreNewMemory(t *testing.T) {
	r := made(t, small())
	spoil(r.Config().Servers)
	for _, k := range someKeys(small()) {
		spoil(groupOf(t, r, k))
	}
	mustBeAlike(t, made(t, small()), r, small())
	a, b := r.Config(), r.Config()
	spoil(a.Servers)
	if !slices.Equal(b.Servers, []int{10, 20, 30}) {
		t.Errorf("two answers share memory: %v", b.Servers)
	}
	k := api.Key{Kind: api.KBucket}
	first, second := groupOf(t, r, k), groupOf(t, r, k)
	spoil(first)
	if !slices.Equal(second, []int{20, 30, 10}) {
		t.Errorf("two groups share memory: %v", second)
	}
}

func TestP3TheSameAgain(t *testing.T) {
	for _, c := range several() {
		mustBeAlike(t, made(t, c), made(t, c), c)
	}
}

func TestP5PointsLeftEarly(t *testing.T) {
	r := made(t, small())
	points := r.Points()
	want := pointsOf(r)
	for leave := range len(want) {
		var got [][2]int
		for hash, server := range points {
			got = append(got, [2]int{hash, server})
			if len(got) > leave {
				break
			}
		}
		if !slices.Equal(got, want[:leave+1]) {
			t.Errorf("left behind %d: %v", leave, got)
		}
	}
}

func TestP5PointsWithinThemselves(t *testing.T) {
	r := made(t, small())
	points := r.Points()
	want := pointsOf(r)
	var outer [][2]int
	for hash, server := range points {
		outer = append(outer, [2]int{hash, server})
		var inner [][2]int
		for hash, server := range points {
			inner = append(inner, [2]int{hash, server})
			groupOf(t, r, api.Key{Kind: api.KBucket})
		}
		if !slices.Equal(inner, want) {
			t.Fatalf("within: %v", inner)
		}
	}
	if !slices.Equal(outer, want) {
		t.Errorf("around: %v", outer)
	}
}

func TestP7EachRingIsItsOwn(t *testing.T) {
	a, b := made(t, small()), made(t, small())
	*a = ring.Ring{}
	if reflect.DeepEqual(a.Config(), b.Config()) {
		t.Error("two calls of New answered one ring")
	}
	mustBeAlike(t, made(t, small()), b, small())
}

// A ring that New did not make has no points and no buckets.
func TestP1EmptyRing(t *testing.T) {
	var r ring.Ring
	r.Group(api.Key{Kind: api.KBlock, A: 1, B: 1})
	r.Group(api.Key{Kind: api.KBucket})
	if r.Bucket("plum") != 0 || r.Share(0) != 0 || len(pointsOf(&r)) != 0 || len(r.Config().Servers) != 0 {
		t.Error("an empty ring tells something")
	}
}
