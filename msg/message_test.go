package msg_test

import (
	"math"
	"slices"
	"testing"

	"cairn/api"
	"cairn/msg"
	"cairn/ring"
)

func mustMsg(t *testing.T, m api.Msg, c api.Config) {
	t.Helper()
	if e := msg.Valid(m, c); e != want(isMsg(m, c), api.ErrMsg) {
		t.Fatalf("%+v: %v", m, e)
	}
	messages.must(t, m, c)
}

func TestP504Ordinary(t *testing.T) {
	rowsMet := map[int]int{}
	for _, m := range ordinary() {
		if e := msg.Valid(m, small); e != api.OK {
			t.Errorf("%+v: %v", m, e)
		}
		mustMsg(t, m, small)
		for i, r := range rows {
			if r.is(m, small) {
				rowsMet[i]++
			}
		}
	}
	if len(rowsMet) != len(rows) {
		t.Errorf("of %d rows %d are met", len(rows), len(rowsMet))
	}
}

// change is one field of a message put otherwise.
type change struct {
	field string
	put   func(*api.Msg)
}

func changesOf[T any](field string, values []T, at func(*api.Msg) *T) []change {
	var l []change
	for _, v := range values {
		l = append(l, change{field, func(m *api.Msg) { *at(m) = v }})
	}
	return l
}

func changes() []change {
	var kinds []int
	for k := range 27 {
		kinds = append(kinds, k)
	}
	addrs := []api.Addr{{}, client(0), client(1), client(3), client(4), client(255), client(256), client(-1), server(1), server(2), server(3), server(4), server(-1), server(255)}
	numbers := append([]int{2, 1 << 20, 1 << 40, 1<<40 + 1}, edges...)
	keys := []api.Key{{}, blockKey(1, 1, 0), blockKey(255, 1<<40, 1<<20-1), blockKey(4, 2, 1<<20), blockKey(0, 1, 0), blockKey(256, 1, 0), blockKey(1, 0, 0), blockKey(1, 1<<40+1, 0), blockKey(1, 1, -1),
		bucketKey(0), bucketKey(1), bucketKey(2), bucketKey(-1), {Kind: 2, B: 1}, {Kind: 2, C: 1},
		instanceKey(0, 1), instanceKey(1, 1<<20), instanceKey(1, 300), instanceKey(1, 301), instanceKey(2, 1), instanceKey(-1, 1), instanceKey(0, 0), instanceKey(0, 1<<20+1), {Kind: 3, B: 1, C: 1}, {Kind: 4, A: 1, B: 1}}
	blocks := [][]byte{nil, {}, {0}, {0, 0}, {0, 0, 0}, {0, 0, 1}, {1, 0, 0}, {0, 0, 0, 0}}
	wrong := full()
	wrong.Lasts[1].Size = 1
	buckets := []api.Bucket{{}, {Entries: []api.Entry{}}, {Upto: 1}, {Upto: 4}, {Upto: 5}, {Upto: 1 << 20}, {Upto: 1<<20 + 1}, {Upto: -1}, {Entries: entries(1)}, {Lasts: lasts(1)}, {Upto: 5, Entries: entries(3)}, full(), wrong}
	rows := [][]api.Command{nil, {}, {{}}, {create}, {create, {}}, {{}, {Client: 1}}, {{Kind: 8}}, make([]api.Command, 64), make([]api.Command, 65), slices.Repeat(commands(), 9)}
	l := changesOf("Kind", append(kinds, edges...), func(m *api.Msg) *int { return &m.Kind })
	l = append(l, changesOf("From", addrs, func(m *api.Msg) *api.Addr { return &m.From })...)
	l = append(l, changesOf("To", addrs, func(m *api.Msg) *api.Addr { return &m.To })...)
	l = append(l, changesOf("Op", numbers, func(m *api.Msg) *int { return &m.Op })...)
	l = append(l, changesOf("Round", numbers, func(m *api.Msg) *int { return &m.Round })...)
	l = append(l, changesOf("Key", keys, func(m *api.Msg) *api.Key { return &m.Key })...)
	l = append(l, changesOf("Stamp", stamps, func(m *api.Msg) *api.Stamp { return &m.Stamp })...)
	l = append(l, changesOf("Held", stamps, func(m *api.Msg) *api.Stamp { return &m.Held })...)
	l = append(l, changesOf("Block", blocks, func(m *api.Msg) *[]byte { return &m.Block })...)
	l = append(l, changesOf("Command", someCommands(), func(m *api.Msg) *api.Command { return &m.Command })...)
	l = append(l, changesOf("Bucket", buckets, func(m *api.Msg) *api.Bucket { return &m.Bucket })...)
	l = append(l, changesOf("Commands", rows, func(m *api.Msg) *[]api.Command { return &m.Commands })...)
	return append(l, changesOf("More", []bool{false, true}, func(m *api.Msg) *bool { return &m.More })...)
}

// Every message of the ordinary ones with one field or two put otherwise, edges and wrong ones among them.
func TestP504Changed(t *testing.T) {
	all := changes()
	right := 0
	for _, base := range ordinary() {
		for i, first := range all {
			m := base
			first.put(&m)
			mustMsg(t, m, small)
			for _, second := range all[i+1:] {
				if first.field != second.field {
					n := m
					second.put(&n)
					mustMsg(t, n, small)
					if isMsg(n, small) {
						right++
					}
				}
			}
		}
	}
	if right < 9000 {
		t.Errorf("only %d of the changed messages were right", right)
	}
}

func TestP504Kinds(t *testing.T) {
	known := map[int]int{1: 1, 2: 1, 3: 1, 4: 1, 5: 1, 11: 1, 12: 1, 13: 1, 14: 1, 15: 1, 16: 1, 17: 1, 21: 1, 22: 1}
	for kind := -300; kind < 300; kind++ {
		for _, m := range ordinary() {
			m.Kind = kind
			if e := msg.Valid(m, small); known[kind] == 0 && e != api.ErrMsg {
				t.Errorf("kind %d: %v", kind, e)
			}
		}
	}
	if e := msg.Valid(api.Msg{}, small); e != api.ErrMsg {
		t.Errorf("the zero message: %v", e)
	}
}

// What a row does not name, set to what would be right elsewhere.
func TestP504NotNamed(t *testing.T) {
	set := map[rune]func(*api.Msg){
		's': func(m *api.Msg) { m.Stamp = stamp(5, 4) }, 'h': func(m *api.Msg) { m.Held = stamp(1, 1) }, 'b': func(m *api.Msg) { m.Block = []byte{0, 0, 0} },
		'c': func(m *api.Msg) { m.Command = create }, 'u': func(m *api.Msg) { m.Bucket = api.Bucket{Upto: 5} }, 'l': func(m *api.Msg) { m.Commands = []api.Command{create} },
		'm': func(m *api.Msg) { m.More = true },
	}
	for _, base := range ordinary() {
		at := slices.IndexFunc(rows, func(r row) bool { return r.is(base, small) })
		for letter, put := range set {
			if slices.Contains([]rune(rows[at].names), letter) {
				continue
			}
			m := base
			put(&m)
			// A block's MHave that holds none becomes one that holds one by its Stamp, but has no Block then.
			if e := msg.Valid(m, small); e != api.ErrMsg {
				t.Errorf("kind %d with %c set: %v", m.Kind, letter, e)
			}
		}
	}
}

func TestP504Ends(t *testing.T) {
	c := api.Config{Servers: []int{200, 3, 7, 12, 255}, F: 1, Points: 3, Buckets: 5, Block: 2, Room: 3}
	r, _ := ring.New(c)
	k := blockKey(4, 2, 0)
	group, _ := r.Group(k)
	outside := 0
	for id := -1; id < 258; id++ {
		is := slices.Contains(c.Servers, id)
		query := api.Msg{Kind: api.MQuery, From: client(9), To: server(id), Op: 1, Round: 1, Key: k}
		ack := api.Msg{Kind: api.MAck, From: server(id), To: client(9), Op: 1, Round: 1, Key: k}
		ask := api.Msg{Kind: api.MAsk, From: server(id), To: server(200), Key: k}
		if a, b := msg.Valid(query, c), msg.Valid(ack, c); a != want(is, api.ErrMsg) || b != a {
			t.Errorf("server %d: %v, %v", id, a, b)
		}
		if e := msg.Valid(ask, c); e != want(is && id != 200, api.ErrMsg) {
			t.Errorf("server %d asks server 200: %v", id, e)
		}
		if is && !slices.Contains(group, id) {
			outside++
		}
		query.From, query.To = client(id), server(7)
		ack.From, ack.To = server(7), client(id)
		if a, b := msg.Valid(query, c), msg.Valid(ack, c); a != want(id >= 1 && id <= 255, api.ErrMsg) || b != a {
			t.Errorf("client %d: %v, %v", id, a, b)
		}
	}
	if outside != 2 {
		t.Errorf("%d servers outside the group were asked", outside)
	}
}

// A bucket's row of commands up to the end of the instances.
func TestP504Commands(t *testing.T) {
	for _, n := range []int{1, 2, 1<<20 - 64, 1<<20 - 63, 1<<20 - 62, 1<<20 - 1, 1 << 20, 1<<20 + 1, 1<<20 + 2, math.MaxInt, math.MaxInt - 10} {
		for _, many := range []int{0, 1, 2, 3, 63, 64, 65, 66, 1000} {
			for _, x := range someCommands() {
				m := api.Msg{Kind: api.MHave, From: server(1), To: server(2), Key: bucketKey(1), Stamp: stamp(n, 0), Commands: slices.Repeat([]api.Command{{}}, many)}
				if many > 0 {
					m.Commands[many-1] = x
				}
				mustMsg(t, m, small)
			}
		}
	}
}

func TestP504BucketBehind(t *testing.T) {
	for _, upto := range []int{0, 1, 4, 5, 6, 1<<20 - 1, 1 << 20, 1<<20 + 1} {
		for _, at := range []int{1, 4, 5, 6, 1 << 20} {
			m := api.Msg{Kind: api.MBucket, From: server(1), To: client(2), Op: 1, Round: 1, Key: instanceKey(0, at), Bucket: api.Bucket{Upto: upto}}
			if e := msg.Valid(m, small); e != want(upto >= at && upto <= 1<<20, api.ErrMsg) {
				t.Errorf("a bucket behind %d, asked for %d: %v", upto, at, e)
			}
		}
	}
}

// Held at, below and above Stamp, by N and by Client.
func TestP504Held(t *testing.T) {
	for n := range 7 {
		for id := range 7 {
			for _, x := range []api.Command{{}, create} {
				m := api.Msg{Kind: api.MPromise, From: server(1), To: client(2), Op: 1, Round: 1, Key: instanceKey(0, 1), Stamp: stamp(5, 4), Held: stamp(n, id), Command: x}
				none, one := n == 0 && id == 0, n > 0 && id > 0 && (n < 5 || n == 5 && id <= 4)
				if e := msg.Valid(m, small); e != want(none && x == api.Command{} || one && x == create, api.ErrMsg) {
					t.Errorf("Held %v under {5, 4}, %v: %v", m.Held, x, e)
				}
			}
		}
	}
}

// Servers in another order are the same configuration.
func TestW2OrderOfServers(t *testing.T) {
	c := small
	c.Servers = []int{3, 1, 2}
	for _, m := range ordinary() {
		mustMsg(t, m, c)
	}
}
