package history_test

import (
	"math"
	"testing"

	"cairn/api"
	"cairn/history"
)

func mustBeAlone(t testing.TB, want bool, l ...api.Line) {
	t.Helper()
	if history.Alone(l) != want {
		t.Fatalf("Alone: %v, of\n%s", !want, words(l))
	}
}

func TestP1806Alone(t *testing.T) {
	i, r := invoke(1, 1, read()), returns(1, 1, got(0, 0, 0))
	mustBeAlone(t, true)
	mustBeAlone(t, true, i)
	mustBeAlone(t, true, i, r)
	mustBeAlone(t, true, i, r, invoke(1, 2, read()))
	mustBeAlone(t, true, i, r, invoke(2, 1, read()), returns(2, 1, worn()), invoke(1, 2, read()))
	mustBeAlone(t, false, i, invoke(2, 1, read()))
	mustBeAlone(t, false, i, invoke(2, 1, read()), r, returns(2, 1, worn()))
	mustBeAlone(t, false, i, r, invoke(2, 1, read()), invoke(3, 1, read()))
	mustBeAlone(t, false, i, begin(2, readAt("a")))
	mustBeAlone(t, true, i, returns(1, 1, worn()), invoke(2, 1, read()))
	mustBeAlone(t, true, i, learn(0, 1, commandOf(1, 1, list(0))), r)
}

// A composite one is beside others from its HBegin to its HEnd; its own parts are not beside it.
func TestP1806Composites(t *testing.T) {
	b, e := begin(1, readAt("a")), end(1)
	i, r := invoke(1, 1, read()), returns(1, 1, got(0, 0, 0))
	mustBeAlone(t, true, b, i, r, invoke(1, 2, read()), returns(1, 2, worn()), e, begin(2, readAt("a")), end(2), i)
	mustBeAlone(t, true, b, i, r, invoke(1, 2, read()))
	mustBeAlone(t, false, b, invoke(2, 1, read()))
	mustBeAlone(t, false, b, begin(2, readAt("a")))
	mustBeAlone(t, false, b, i, r, invoke(2, 1, read()))
	mustBeAlone(t, false, b, i, r, begin(2, readAt("a")))
	mustBeAlone(t, true, b, i, r, e, invoke(2, 1, read()))
	mustBeAlone(t, true, b, e, begin(2, readAt("a")), end(2), begin(1, readAt("a")))
	mustBeAlone(t, false, b, i, invoke(1, 2, read()))
}

// Of lines that are no history just this is looked at.
func TestP1806NoHistory(t *testing.T) {
	b, e := begin(1, api.Op{}), end(1)
	i, r := invoke(1, 1, api.Op{}), returns(1, 1, api.Result{})
	mustBeAlone(t, true, r, r, e, e, i)
	mustBeAlone(t, false, r, i, invoke(1, 2, read()))
	mustBeAlone(t, true, i, r, r, i, r, i)
	mustBeAlone(t, false, i, i)
	mustBeAlone(t, false, i, returns(1, 2, worn()), i)
	mustBeAlone(t, false, i, returns(2, 1, worn()), i)
	mustBeAlone(t, false, i, b)
	mustBeAlone(t, true, b, b, e, begin(2, api.Op{}))
	mustBeAlone(t, true, b, b)
	mustBeAlone(t, false, e, b, end(2), begin(2, api.Op{}))
	mustBeAlone(t, true, b, i, e, r, invoke(2, 1, read()))
	mustBeAlone(t, false, b, i, e, invoke(2, 1, read()))
	mustBeAlone(t, true, api.Line{}, i, api.Line{Kind: 6, Client: 1, Number: 1}, api.Line{Kind: -1}, r, api.Line{Kind: math.MaxInt}, i)
	// A return of another kind of line is none.
	mustBeAlone(t, false, i, e, api.Line{Kind: api.HLearn, Client: 1, Number: 1}, i)
	mustBeAlone(t, false, b, r, invoke(2, 1, read()))
	for _, who := range []int{0, -1, 256, math.MaxInt, math.MinInt} {
		mustBeAlone(t, true, invoke(who, who, read()), returns(who, who, worn()), begin(who, read()), invoke(who, 0, read()))
		mustBeAlone(t, false, invoke(who, who, read()), returns(who, 7, worn()), i)
		mustBeAlone(t, false, begin(who, read()), i)
	}
	// An HBegin's Number is not looked at.
	mustBeAlone(t, true, api.Line{Kind: api.HBegin, Client: 1, Number: 5}, api.Line{Kind: api.HEnd, Client: 1, Number: 6}, invoke(2, 1, read()))
}
