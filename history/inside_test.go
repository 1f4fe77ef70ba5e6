package history

import (
	"testing"

	"cairn/api"
)

// Of several stamps that an open OWrite may have the least counts, whichever was told first.
func TestP1802TheLeastStamp(t *testing.T) {
	c := api.Config{Servers: []int{1}, Points: 1, Buckets: 1, Block: 1, Room: 1}
	f := api.File{Client: 1, Op: 1}
	for _, order := range [][]api.Stamp{{{N: 3, Client: 1}, {N: 2, Client: 1}, {N: 5, Client: 1}}, {{N: 2, Client: 1}, {N: 3, Client: 1}}, {{N: 7, Client: 1}, {N: 2, Client: 1}}} {
		l := []api.Line{{Kind: api.HInvoke, Client: 1, Number: 1, Op: api.Op{Kind: api.OWrite, File: f, Data: []byte{1}}}}
		for i, s := range order {
			l = append(l,
				api.Line{Kind: api.HInvoke, Client: 2, Number: i + 1, Op: api.Op{Kind: api.ORead, File: f}},
				api.Line{Kind: api.HReturn, Client: 2, Number: i + 1, Result: api.Result{Data: []byte{1}, Stamp: s}})
		}
		tale, err := read(c, l)
		if err != api.OK {
			t.Fatal(err)
		}
		tale.settle()
		if o := tale.invoked[0]; !o.happened || o.stamp != (api.Stamp{N: 2, Client: 1}) {
			t.Errorf("%v: %v, %v", order, o.happened, o.stamp)
		}
	}
}
