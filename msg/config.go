package msg

import "cairn/api"

// F is looked at ahead of the servers, since they must be 2F + 1: of any number that might run over.
func rightConfig(c api.Config) bool {
	return within(c.F, 0, api.MaxF) && within(c.Points, 1, api.MaxPoints) && within(c.Buckets, 1, api.MaxBuckets) &&
		within(c.Block, 1, api.MaxBlock) && within(c.Room, 1, api.MaxRoom) &&
		within(len(c.Servers), 2*c.F+1, api.MaxServers) && unlikeIds(c.Servers)
}

func unlikeIds(ids []int) bool {
	var seen [api.MaxId + 1]bool
	for _, id := range ids {
		if !rightId(id) || seen[id] {
			return false
		}
		seen[id] = true
	}
	return true
}

func within(n, least, most int) bool {
	return least <= n && n <= most
}
