package bucket_test

import (
	"testing"

	"cairn/api"
	"cairn/bucket"
)

// exampleRow has the bucket behind each of the commands of examples 1 to 4, with room 2, and their answers.
func exampleRow(t *testing.T) ([]api.Bucket, []api.Answer) {
	row := []api.Command{
		create(4, 1, "plum"), create(5, 1, "plum"),
		create(5, 2, "fig"), create(5, 3, "ash"), list(4, 2),
		grow(4, 3, "plum", file(4, 1), 70), grow(4, 4, "plum", file(4, 1), 9), setSize(4, 5, "plum", file(4, 2), 1),
		replace(4, 6, "plum", file(4, 1), file(9, 9), 3), remove(4, 7, "plum"), lookup(4, 8, "plum"),
	}
	all, answers := []api.Bucket{{}}, []api.Answer{{}}
	for i, c := range row {
		b, a, err := bucket.Apply(all[i], c, 2)
		if err != api.OK {
			t.Fatalf("%+v: %v", c, err)
		}
		all, answers = append(all, b), append(answers, a)
	}
	return all, answers
}

func mustBeAnswered(t *testing.T, got, want api.Answer) {
	if !alikeAnswers(got, want) {
		t.Fatalf("%+v; want %+v", got, want)
	}
}

func TestExample1(t *testing.T) {
	b, a := exampleRow(t)
	plum := entry("plum", 4, 1, 0)
	first := last(4, 1, 1, api.OK, file(4, 1), 0)
	mustBeAnswered(t, a[1], api.Answer{Entry: plum})
	if !alike(b[1], api.Bucket{Upto: 1, Entries: []api.Entry{plum}, Lasts: []api.Last{first}}) {
		t.Fatalf("%+v", b[1])
	}
	mustBeAnswered(t, a[2], api.Answer{Err: api.ErrExists, Entry: plum})
	if !alike(b[2], api.Bucket{Upto: 2, Entries: []api.Entry{plum}, Lasts: []api.Last{first, last(5, 1, 2, api.ErrExists, file(4, 1), 0)}}) {
		t.Fatalf("%+v", b[2])
	}
}

func TestExample2(t *testing.T) {
	b, a := exampleRow(t)
	fig, plum := entry("fig", 5, 2, 0), entry("plum", 4, 1, 0)
	mustBeAnswered(t, a[3], api.Answer{Entry: fig})
	mustBeAnswered(t, a[4], api.Answer{Err: api.ErrRoom})
	mustLast(t, b[4], 5, last(5, 3, 4, api.ErrRoom, file(0, 0), 0), true)
	mustBeAnswered(t, a[5], api.Answer{List: []api.Entry{fig, plum}})
	if b[5].Upto != 5 {
		t.Fatalf("Upto %d", b[5].Upto)
	}
	mustLast(t, b[5], 4, last(4, 1, 1, api.OK, file(4, 1), 0), true)
}

func TestExample3(t *testing.T) {
	_, a := exampleRow(t)
	plum := entry("plum", 4, 1, 70)
	mustBeAnswered(t, a[6], api.Answer{Entry: plum})
	mustBeAnswered(t, a[7], api.Answer{Entry: plum})
	mustBeAnswered(t, a[8], api.Answer{Err: api.ErrStale, Entry: plum})
}

func TestExample4(t *testing.T) {
	_, a := exampleRow(t)
	mustBeAnswered(t, a[9], api.Answer{Entry: entry("plum", 9, 9, 3)})
	mustBeAnswered(t, a[10], api.Answer{Entry: entry("plum", 9, 9, 3)})
	mustBeAnswered(t, a[11], api.Answer{Err: api.ErrNotFound})
}

func TestExample5(t *testing.T) {
	for _, b := range []api.Bucket{{}, many(), {Upto: api.MaxInstance}} {
		mustRefuse(t, b, api.Command{Kind: 0, Client: 4, Op: 1, Name: "plum"}, 2, api.ErrCommand)
		mustRefuse(t, b, api.Command{Kind: 8, Client: 4, Op: 1, Name: "plum"}, 2, api.ErrCommand)
		mustRefuse(t, b, create(0, 1, "plum"), 2, api.ErrCommand)
		mustRefuse(t, b, create(4, 0, "plum"), 2, api.ErrCommand)
	}
	mustRefuse(t, api.Bucket{Upto: api.MaxInstance}, create(4, 1, "plum"), 2, api.ErrWorn)
}

func TestExample6(t *testing.T) {
	b, _ := mustReplay(t, api.Bucket{}, 4, create(1, 1, "plums"), create(1, 2, "pm"), create(1, 3, "fig"), create(1, 4, "plum"))
	mustName(t, b, "", "fig", "plum", "plums", "pm")
	mustName(t, b, "pl", "plum", "plums")
}
