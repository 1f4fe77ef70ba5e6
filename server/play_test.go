package server_test

import (
	"fmt"
	"math/rand"
	"testing"

	"cairn/api"
	"cairn/disk"
	"cairn/tally"
)

// house is where a machine lives: what lies there outlasts it.
type house interface {
	start(t testing.TB) machine
	tear(writes, torn int)
}

type diskHouse struct {
	c api.Config
	d *disk.Disk
}

func (h diskHouse) start(t testing.TB) machine {
	h.d.Start()
	return started(t, h.c, h.d)
}

func (h diskHouse) tear(writes, torn int) { h.d.Arm(writes, torn) }

type plainHouse struct {
	c     api.Config
	sh    *shelf
	wrong string
}

func (h plainHouse) start(testing.TB) machine {
	if h.wrong == "a start loses a promise" {
		for k, x := range h.sh.lies {
			x.Instance.Promised = x.Instance.Accepted
			h.sh.lies[k] = x
		}
	}
	return newPlain(h.c, me, h.sh, h.wrong)
}

func (h plainHouse) tear(int, int) {}

// ledger is what a server was heard to say: P1310 holds it to that.
type ledger struct {
	acked, promised, accepted map[api.Key]api.Stamp
	known                     map[api.Key]api.Command
	upto                      map[int]int
}

func newLedger() *ledger {
	return &ledger{map[api.Key]api.Stamp{}, map[api.Key]api.Stamp{}, map[api.Key]api.Stamp{}, map[api.Key]api.Command{}, map[int]int{}}
}

// hear notes an answer to a message.
func (l *ledger) hear(m, a api.Msg) {
	raise := func(at map[api.Key]api.Stamp, s api.Stamp) { at[m.Key] = tally.Max(at[m.Key], s) }
	switch a.Kind {
	case api.MAck:
		raise(l.acked, m.Stamp)
	case api.MPromise:
		raise(l.promised, a.Stamp)
	case api.MAccepted:
		raise(l.accepted, a.Stamp)
	case api.MKnown:
		l.known[m.Key] = a.Command
	case api.MBucket:
		l.upto[m.Key.A] = max(l.upto[m.Key.A], a.Bucket.Upto)
	}
}

// breach tells what a server has forgotten; nothing, if it has kept its word.
func (l *ledger) breach(s machine) string {
	for k, tag := range l.acked {
		if b := s.Block(k); tally.Less(b.Stamp, tag) {
			return fmt.Sprintf("%v: the tag %v was acknowledged, it holds %v", k, tag, b.Stamp)
		}
	}
	for n, upto := range l.upto {
		if now := s.Bucket(n).Upto; now < upto {
			return fmt.Sprintf("bucket %d was trimmed up to %d, now up to %d", n, upto, now)
		}
	}
	settled := func(k api.Key) bool { return s.Instance(k).Decided || k.B <= s.Bucket(k.A).Upto }
	for k, ballot := range l.promised {
		if i := s.Instance(k); !settled(k) && tally.Less(i.Promised, ballot) {
			return fmt.Sprintf("%v: %v was promised, it holds %+v", k, ballot, i)
		}
	}
	for k, ballot := range l.accepted {
		if i := s.Instance(k); !settled(k) && tally.Less(i.Accepted, ballot) {
			return fmt.Sprintf("%v: %v was accepted, it holds %+v", k, ballot, i)
		}
	}
	for k, c := range l.known {
		if i := s.Instance(k); k.B > s.Bucket(k.A).Upto && (!i.Decided || i.Command != c) {
			return fmt.Sprintf("%v: it was decided, it holds %+v", k, i)
		}
	}
	return ""
}

// look notes how far each bucket is trimmed.
func (l *ledger) look(s machine, c api.Config) {
	for n := range c.Buckets {
		l.upto[n] = max(l.upto[n], s.Bucket(n).Upto)
	}
}

// remember plays steps, trims, mends, falls and starts, and tells the first breach.
func remember(t testing.TB, r *rand.Rand, c api.Config, h house) string {
	t.Helper()
	s, l := h.start(t), newLedger()
	for range 150 {
		if s.Fallen() && r.Intn(2) == 0 {
			s = h.start(t)
		}
		switch r.Intn(16) {
		case 0:
			s = h.start(t)
		case 1:
			s.Arm(r.Intn(5))
		case 2:
			h.tear(r.Intn(6), r.Intn(513))
		case 3:
			s.Limit(r.Intn(80))
		case 4, 5:
			n := r.Intn(c.Buckets)
			if upto, err := s.Trim(n, r.Intn(9)); err == api.OK {
				l.upto[n] = max(l.upto[n], upto)
			}
		case 6:
			s.Mend(3, api.Key{Kind: api.KBucket, A: r.Intn(c.Buckets)})
		case 7:
			s.Step([]byte("junk"))
		default:
			m := anyMsg(r, c)
			for _, a := range tell(t, s, c, m) {
				l.hear(m, a)
			}
		}
		if s.Fallen() {
			continue
		}
		if b := l.breach(s); b != "" {
			return b
		}
		l.look(s, c)
	}
	return l.breach(h.start(t))
}

func TestP1310NobodyForgets(t *testing.T) {
	t.Parallel()
	for seed := range 8 {
		t.Run(fmt.Sprint(seed), func(t *testing.T) {
			t.Parallel()
			r := rand.New(rand.NewSource(int64(seed)))
			for range 60 {
				sectors := []int{12, 40, 60, 90}[r.Intn(4)]
				if b := remember(t, r, three(), diskHouse{three(), newDisk(t, sectors)}); b != "" {
					t.Fatal(b)
				}
			}
		})
	}
}

// The play finds out servers that break a rule.
func TestP1310PlayFindsBrokenRules(t *testing.T) {
	t.Parallel()
	for _, wrong := range []string{"it answers without room", "it answers as it falls", "an older Put is taken", "a promise is not laid down", "an older bucket is taken", "an older block is brought", "a trim drops one more", "a start loses a promise"} {
		t.Run(wrong, func(t *testing.T) {
			t.Parallel()
			for seed := range 200 {
				r := rand.New(rand.NewSource(int64(seed)))
				if remember(t, r, three(), plainHouse{three(), newShelf(60), wrong}) != "" {
					return
				}
			}
			t.Error("nothing is found")
		})
	}
	for seed := range 20 {
		r := rand.New(rand.NewSource(int64(seed)))
		if b := remember(t, r, three(), plainHouse{three(), newShelf(60), ""}); b != "" {
			t.Fatalf("the plain server itself: %s", b)
		}
	}
}

// beside plays the same messages to two servers, of which the first is told to trim as well. It tells where they part.
func beside(t testing.TB, r *rand.Rand, c api.Config, a, b machine) string {
	t.Helper()
	brought := map[int]bool{}
	for range 120 {
		n := r.Intn(c.Buckets)
		if r.Intn(5) == 0 {
			if _, err := a.Trim(n, r.Intn(9)); err != api.OK {
				t.Fatal(err)
			}
		}
		m := anyMsg(r, c)
		if m.Bucket.Upto > 0 {
			if brought[m.Key.A] = true; r.Intn(3) > 0 {
				continue
			}
		}
		forgotten := m.Key.Kind == api.KInstance && m.Key.B <= max(a.Bucket(m.Key.A).Upto, b.Bucket(m.Key.A).Upto)
		one, two := tell(t, a, c, m), tell(t, b, c, m)
		if m.Key.Kind != api.KBucket && !forgotten && !same(one, two) {
			return fmt.Sprintf("%+v is answered\n%+v by the one that trims,\n%+v by the other", m, one, two)
		}
		for number := range c.Buckets {
			if x := a.Bucket(number); !brought[number] && !same(x, replayed(t, x.Upto, c.Room)) {
				return fmt.Sprintf("%+v is not what the commands up to %d make", x, x.Upto)
			}
		}
	}
	return ""
}

func TestP1311Trimmed(t *testing.T) {
	t.Parallel()
	for seed := range 8 {
		t.Run(fmt.Sprint(seed), func(t *testing.T) {
			t.Parallel()
			r := rand.New(rand.NewSource(int64(seed)))
			for range 20 {
				c := three()
				c.Room = 1 + r.Intn(3)
				if fault := beside(t, r, c, started(t, c, newDisk(t, 200)), started(t, c, newDisk(t, 200))); fault != "" {
					t.Fatal(fault)
				}
			}
		})
	}
}

func TestP1311PlayFindsBrokenRules(t *testing.T) {
	t.Parallel()
	for _, wrong := range []string{"a trim drops one more", "what is accepted is trimmed", "a trim begins anew", "a trim knows no room"} {
		t.Run(wrong, func(t *testing.T) {
			t.Parallel()
			c := three()
			c.Room = 1
			for seed := range 200 {
				r := rand.New(rand.NewSource(int64(seed)))
				if finds(t, r, c, wrong) {
					return
				}
			}
			t.Error("nothing is found")
		})
	}
}

// finds: a bucket with more entries than there is room for can't be told at all, which is found, too.
func finds(t testing.TB, r *rand.Rand, c api.Config, wrong string) (found bool) {
	t.Helper()
	defer func() { found = found || recover() != nil }()
	return beside(t, r, c, newPlain(c, me, newShelf(200), wrong), newPlain(c, me, newShelf(200), wrong)) != ""
}
