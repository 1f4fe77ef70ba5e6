package mend

import "cairn/api"

// askable tells whether a bucket may be asked for from this instance on: also from the one behind the last that may be, as one asks who lacks none.
func askable(n int) bool { return n >= 1 && n <= api.MaxInstance+1 }

func asking(from, to api.Addr, k api.Key, n int) api.Msg {
	return api.Msg{Kind: api.MAsk, From: from, To: to, Key: k, Stamp: api.Stamp{N: n}}
}

// askOn asks from the instance n on, if there is more. An answer without anything would have the same asked for ever.
func askOn(have api.Msg, n int) (api.Msg, bool) {
	empty := have.Bucket.Upto == 0 && len(have.Commands) == 0
	if empty || !have.More {
		return api.Msg{}, false
	}
	return asking(have.To, have.From, have.Key, n), true
}
