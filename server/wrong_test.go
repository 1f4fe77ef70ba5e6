package server_test

import (
	"math"
	"math/rand"
	"testing"

	"cairn/api"
	"cairn/disk"
	"cairn/msg"
	"cairn/server"
	"cairn/wire"
)

// wrongBytes are no messages.
func wrongBytes(t *testing.T) [][]byte {
	t.Helper()
	list := [][]byte{nil, {}, {0}, {1}, make([]byte, 12), make([]byte, 40), make([]byte, 512), []byte("junk"), wire.Seal(nil), wire.Seal([]byte{1}), wire.Seal(make([]byte, 100))}
	for _, m := range asking(block(0), dir, at(2)) {
		good := encoded(t, three(), m)
		for n := range good {
			list = append(list, good[:n], good[n:][1:])
			for bit := range 8 {
				flipped := append([]byte(nil), good...)
				flipped[n] ^= 1 << bit
				list = append(list, flipped)
			}
		}
		list = append(list, append(append([]byte(nil), good...), 0), append(append([]byte(nil), good...), good...))
		body, err := wire.Open(good)
		if err != api.OK {
			t.Fatal(err)
		}
		// sealed rightly, but no message
		list = append(list, wire.Seal(append(body, 0)), wire.Seal(body[:len(body)-1]), wire.Seal(append([]byte{77}, body[1:]...)))
	}
	return list
}

// Bytes that are no message change nothing, are not answered, and write nothing.
func TestP1312Junk(t *testing.T) {
	s, d := row(t, "DD.a")
	mustDo(t, s, three(), put(block(0), stamp(1, 1), "abc"))
	mustTrim(t, s, 1, 1)
	was := view(s, three())
	mustWrite(t, d, false, func() {
		for _, b := range wrongBytes(t) {
			if _, err := msg.Decode(b, three()); err == api.OK {
				t.Fatalf("%v is a message", b)
			}
			if list := s.Step(b); len(list) != 0 {
				t.Fatalf("%v is answered %v", b, list)
			}
			if s.Fallen() {
				t.Fatal("it has fallen")
			}
		}
	})
	if now := view(s, three()); now != was {
		t.Fatalf("it holds\n%s\nnot\n%s", now, was)
	}
	mustLast(t, s, three(), d)
}

// But a server that is armed falls.
func TestP1312JunkAndArmed(t *testing.T) {
	for _, b := range [][]byte{nil, {1}, []byte("junk"), wire.Seal([]byte{1}), make([]byte, 100)} {
		for _, n := range []int{-1, 0, 1, 9} {
			s, d := row(t, "D")
			was := view(s, three())
			s.Arm(n)
			if list := s.Step(b); len(list) != 0 {
				t.Fatalf("%v is answered %v", b, list)
			}
			mustBeDown(t, s, d)
			if got := reopened(t, three(), d); got != was {
				t.Fatalf("it holds\n%s\nnot\n%s", got, was)
			}
		}
	}
}

// A message of another configuration: of a server, a key, a block that this one has not.
func TestP1312OfAnotherConfiguration(t *testing.T) {
	wide := api.Config{Servers: []int{1, 2, 3, 4}, F: 1, Points: 1, Buckets: 9, Block: 4, Room: 9}
	s, d := row(t, "D")
	was := view(s, three())
	far := asking(block(0), api.Key{Kind: api.KBucket, A: 8}, api.Key{Kind: api.KInstance, A: 8, B: 1})
	from := ask(dir, 1)
	from.From = node(4)
	mustWrite(t, d, false, func() {
		for _, m := range []api.Msg{put(block(0), stamp(1, 1), "abcd"), far[2], far[3], far[4], far[6], from} {
			if list := s.Step(encoded(t, wide, m)); len(list) != 0 {
				t.Fatalf("%+v is answered %v", m, list)
			}
		}
	})
	if view(s, three()) != was {
		t.Error("it holds something else")
	}
}

// Whatever numbers are handed in, every call ends.
func TestP1AnyNumbers(t *testing.T) {
	numbers := []int{math.MinInt, math.MinInt + 1, -1, 0, 1, 2, 3, 255, 256, api.MaxInstance, api.MaxInstance + 1, api.MaxNum, api.MaxNum + 1, math.MaxInt - 1, math.MaxInt}
	for _, a := range numbers {
		for _, b := range numbers {
			s, d := row(t, "DDa")
			s.Limit(a)
			s.Trim(a, b)
			for kind := -1; kind <= 4; kind++ {
				k := api.Key{Kind: kind, A: a, B: b, C: a}
				s.Mend(a, k)
				s.Mend(3, k)
				s.Block(k)
				s.Instance(k)
			}
			s.Bucket(a)
			s.Arm(a)
			s.Trim(number, b)
			s.Trim(number, 2)
			if !s.Fallen() {
				t.Fatal("it was armed")
			}
			started(t, three(), d)
		}
	}
}

// Over a disk that no server has written, whatever lies there: New, and what follows, ends; New writes nothing.
func TestP1JunkDisks(t *testing.T) {
	t.Parallel()
	r := rand.New(rand.NewSource(3))
	s, d := row(t, "DDaD")
	mustDo(t, s, three(), put(block(0), stamp(1, 1), "abc"), haveBucket(brought(2), false))
	good := d.Image()
	opened := 0
	for round := range 400 {
		image := append([]byte(nil), good...)
		switch round % 4 {
		case 0:
			image = image[:api.Sector*(1+r.Intn(20))]
			r.Read(image)
		case 1: // sectors change places, or are there twice
			for range 1 + r.Intn(6) {
				a, b := r.Intn(20)*api.Sector, r.Intn(20)*api.Sector
				copy(image[a:a+api.Sector], image[b:b+api.Sector])
			}
		case 2:
			for range 1 + r.Intn(30) {
				image[r.Intn(20*api.Sector)] ^= byte(1 + r.Intn(255))
			}
		case 3: // a lesser disk than it was
			image = image[:api.Sector*(1+r.Intn(20))]
		}
		junk, err := disk.Load(image)
		if err != api.OK {
			t.Fatal(err)
		}
		writes := junk.Counts().Writes
		s, _ := server.New(three(), me, junk)
		if junk.Counts().Writes != writes {
			t.Fatal("New has written")
		}
		if s == nil {
			continue
		}
		opened++
		for range 20 {
			if x := anyCall(t, r, three()); x.do != nil {
				x.do(s)
			}
			view(s, three())
		}
	}
	if opened < 50 {
		t.Errorf("just %d of these disks are a server's", opened)
	}
}

// Of a disk with another Most: whatever New answers, it ends and writes nothing.
func TestP1OtherMost(t *testing.T) {
	wide := three()
	wide.Block, wide.Room = 2000, 40
	d := newDisk(t, 200)
	s := started(t, wide, d)
	m := put(block(0), stamp(1, 1), string(make([]byte, 2000)))
	mustDo(t, s, wide, m, learned(at(1), command(1)))
	mustWrite(t, d, false, func() {
		if s, err := server.New(three(), me, d); err == api.OK {
			view(s, three())
		}
	})
}
