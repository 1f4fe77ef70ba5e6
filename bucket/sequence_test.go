package bucket_test

import (
	"iter"
	"slices"
	"testing"

	"cairn/api"
	"cairn/bucket"
)

func seq(b api.Bucket) iter.Seq[api.Entry] { return bucket.Names(b, "p") }

func pNames() []string { return []string{"p", "plum", "plums", "pm"} }

func namesOf(s iter.Seq[api.Entry]) []string {
	var names []string
	for e := range s {
		names = append(names, e.Name)
	}
	return names
}

func TestP5LeftEarly(t *testing.T) {
	s := seq(many())
	for stop := range 5 {
		var names []string
		for e := range s {
			if len(names) == stop {
				break
			}
			names = append(names, e.Name)
		}
		if !slices.Equal(names, pNames()[:stop]) {
			t.Fatalf("left behind %d: %q", stop, names)
		}
	}
	if names := namesOf(s); !slices.Equal(names, pNames()) {
		t.Fatalf("behind those: %q", names)
	}
	calls := 0
	s(func(api.Entry) bool { calls++; return calls < 2 })
	if calls != 2 {
		t.Fatalf("one that says no at the second is called %d times", calls)
	}
}

func TestP5AgainAndWithinItself(t *testing.T) {
	s := seq(many())
	var outer []string
	for e := range s {
		for range 2 {
			if names := namesOf(s); !slices.Equal(names, pNames()) {
				t.Fatalf("within itself: %q", names)
			}
		}
		for range s {
			break
		}
		outer = append(outer, e.Name)
	}
	if !slices.Equal(outer, pNames()) {
		t.Fatalf("around itself: %q", outer)
	}
}

// Two goings-over in turns, each at its own place.
func TestP5InTurns(t *testing.T) {
	s := seq(many())
	nextA, stopA := iter.Pull(s)
	defer stopA()
	nextB, stopB := iter.Pull(bucket.Names(many(), ""))
	defer stopB()
	for i, name := range manyNames() {
		if i < 4 {
			if a, ok := nextA(); !ok || a.Name != pNames()[i] {
				t.Fatalf("the first one at %d: %+v", i, a)
			}
		} else if a, ok := nextA(); ok {
			t.Fatalf("the first one at %d: %+v", i, a)
		}
		if b, ok := nextB(); !ok || b.Name != name {
			t.Fatalf("the second one at %d: %+v", i, b)
		}
	}
}

// The sequence is of the bucket as it was when it was made, whatever becomes of its list.
func TestP5AsItWasWhenMade(t *testing.T) {
	b := roomyBucket(many())
	early, all := seq(b), bucket.Names(b, "")
	b.Entries[2] = entry("plunge", 1, 1, 1)
	b.Entries = b.Entries[:5]
	if names := namesOf(early); !slices.Equal(names, pNames()) {
		t.Fatalf("changed between: %q", names)
	}
	if names := namesOf(seq(b)); !slices.Equal(names, []string{"p", "plunge", "plums", "pm"}) {
		t.Fatalf("made anew: %q", names)
	}
	var names []string
	for e := range all {
		spoilBucket(b)
		bucket.Apply(b, create(4, 1, "pa"), 9)
		names = append(names, e.Name)
	}
	if !slices.Equal(names, manyNames()) {
		t.Fatalf("changed meanwhile: %q", names)
	}
	if names := namesOf(all); !slices.Equal(names, manyNames()) {
		t.Fatalf("and again: %q", names)
	}
}

// What is told to one going-over is not another one's: entries are values.
func TestP5EntriesAreTheAskersOwn(t *testing.T) {
	s := seq(many())
	for e := range s {
		e.Name, e.Size = "other", 99
	}
	if got := slices.Collect(s); !slices.Equal(got, many().Entries[1:5]) {
		t.Fatalf("%+v", got)
	}
}
