package ring

import "cairn/api"

// Majority tells F + 1.
func Majority(c api.Config) int {
	return c.F + 1
}

// F is looked at ahead of the servers, since they must be 2F + 1: of any number that might run over.
func rightConfig(c api.Config) bool {
	return within(c.F, 0, api.MaxF) && within(c.Points, 1, api.MaxPoints) && within(c.Buckets, 1, api.MaxBuckets) &&
		within(c.Block, 1, api.MaxBlock) && within(c.Room, 1, api.MaxRoom) && rightServers(c.Servers, 2*c.F+1)
}

func rightServers(servers []int, least int) bool {
	if !within(len(servers), least, api.MaxServers) {
		return false
	}
	seen := make(map[int]struct{}, len(servers))
	for _, server := range servers {
		seen[server] = struct{}{}
		if !within(server, 1, api.MaxId) {
			return false
		}
	}
	return len(seen) == len(servers)
}

func within(n, least, most int) bool {
	return least <= n && n <= most
}
