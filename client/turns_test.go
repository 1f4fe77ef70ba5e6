package client_test

import (
	"fmt"
	"testing"

	"cairn/api"
	"cairn/disk"
	"cairn/server"
)

// place is a client's place in a bucket: up to which instance it has learned all.
type place struct{ client, number int }

// turns plays operations of several clients one behind the other, and tells the first fault; between draws what happens between two of them.
func turns(s *site, r lot, ops int, between func()) string {
	learned := map[place]int{}
	for range ops {
		who := r.Intn(len(s.clients))
		o := r.aimed(s.store)
		most, at := 2, place{who, -1}
		if !isBlock(o) { // two for each instance that is decided and not learned, and more for ballots that are refused: T3
			at.number = bucketOf(s.c, o)
			k := s.store.instances[at.number] - learned[at]
			most = 2*(k+1) + 2 + k + 2
		}
		s.do(who, o, most, r.Intn(2) == 0, r.losses(s.c.F))
		if s.fault != "" {
			return s.fault
		}
		if at.number >= 0 {
			learned[at] = s.store.instances[at.number]
		}
		between()
		if s.fault != "" {
			return s.fault
		}
	}
	return ""
}

// mustTellAll holds the news of the clients against each other and the store: each has learned a front of each bucket's commands, each once and in their order.
func mustTellAll(t *testing.T, s *site) {
	t.Helper()
	row := map[api.Key]api.Command{}
	for _, c := range s.clients {
		ahead := map[int]int{}
		for k, x := range c.News() {
			if is, there := row[k]; there && is != x {
				t.Fatalf("%v: %+v and %+v", k, is, x)
			}
			if row[k] = x; k != at(k.A, ahead[k.A]+1) {
				t.Fatalf("client %d: news of %v behind %d", c.Id(), k, ahead[k.A])
			}
			ahead[k.A]++
		}
	}
	n := 0
	for _, upto := range s.store.instances {
		n += upto
	}
	if len(row) != n {
		t.Fatalf("news of %d instances, not of %d", len(row), n)
	}
}

func TestP1410InTurns(t *testing.T) {
	t.Parallel()
	for _, c := range sites() {
		for clients := 2; clients <= 3; clients++ {
			t.Run(fmt.Sprint(clients, " clients, F ", c.F, " of ", len(c.Servers)), func(t *testing.T) {
				t.Parallel()
				for seed := range int64(8) {
					var all []machine
					for i := range clients {
						all = append(all, made(t, c, []int{me, 255, 1}[i]))
					}
					s := newSite(c, all...)
					if fault := turns(s, randomly(seed), 120, func() {}); fault != "" {
						t.Fatalf("seed %d: %s", seed, fault)
					}
					mustTellAll(t, s)
				}
			})
		}
	}
}

// Over servers with disks, that trim their buckets now and then, and fall and are started again: what was trimmed comes as a bucket.
func TestP1410OverServers(t *testing.T) {
	t.Parallel()
	for _, c := range []api.Config{four(), seven()} {
		for seed := range int64(4) {
			t.Run(fmt.Sprint(len(c.Servers), " servers, ", seed), func(t *testing.T) {
				t.Parallel()
				r := randomly(seed)
				s := newSite(c, made(t, c, me), made(t, c, 255))
				disks := map[int]*disk.Disk{}
				start := func(id int) {
					h, err := server.New(c, id, disks[id])
					if err != api.OK {
						t.Fatal(err)
					}
					s.at[id] = h
				}
				for _, id := range c.Servers {
					disks[id], _ = disk.New(3000)
					start(id)
				}
				trimmed := 0
				fault := turns(s, r, 120, func() {
					id := oneOf(r, c.Servers...)
					if r.Intn(10) == 0 {
						start(id)
					}
					upto, err := s.at[id].(*server.Server).Trim(r.Intn(c.Buckets), r.Intn(40))
					if err != api.OK {
						s.says("Trim: %v", err)
					}
					trimmed += upto
				})
				if fault != "" {
					t.Fatal(fault)
				}
				if trimmed < 10 {
					t.Errorf("too few trims to tell: %d", trimmed)
				}
			})
		}
	}
}
