package history_test

import (
	"slices"
	"testing"

	"cairn/api"
	"cairn/history"
)

// large has so many operations of each client but the first, all but the last one complete.
func large(rows int, o func(client, row int) (api.Op, api.Result)) []api.Line {
	var l []api.Line
	for row := range rows {
		for client := 2; client <= api.MaxId; client++ {
			if row > 0 {
				_, r := o(client, row-1)
				l = append(l, returns(client, row, r))
			}
			op, _ := o(client, row)
			l = append(l, invoke(client, row+1, op))
		}
	}
	return l
}

// Long histories are gone through in good time: neither many blocks nor one long order, nor an operation that stays open all along, makes each step long.
func TestP1804LongHistories(t *testing.T) {
	t.Parallel()
	c := small()
	c.Room = api.MaxRoom
	for _, x := range []struct {
		name string
		o    func(client, row int) (api.Op, api.Result)
	}{
		{"a block for each", func(client, row int) (api.Op, api.Result) {
			return readOf(api.File{Client: client, Op: row + 1}, 0), got(0, 0, 0)
		}},
		{"one block", func(client, row int) (api.Op, api.Result) { return write(1), wrote(row*256+client, client) }},
		{"one bucket", func(client, row int) (api.Op, api.Result) {
			return lookup(inBucket(c, 0, 0)), api.Result{Err: api.ErrNotFound, Instance: row*256 + 256 - client + 1}
		}},
	} {
		t.Run(x.name, func(t *testing.T) {
			t.Parallel()
			open := create(inBucket(c, 0, 0)) // it comes last of all
			l := slices.Concat([]api.Line{invoke(1, 1, open)}, large(120, x.o), []api.Line{learn(0, api.MaxInstance, commandOf(1, 1, open))})
			order, ok := history.Witness(c, l)
			if !ok || len(order) != 119*254+1 {
				t.Fatalf("Witness: %d, %v", len(order), ok)
			}
			if n := history.Legal(c, l, order); n != len(order) {
				t.Fatalf("Legal: %d of %d", n, len(order))
			}
			if history.Alone(l) {
				t.Error("Alone")
			}
		})
	}
}
