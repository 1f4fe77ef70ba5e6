package server

import (
	"fmt"
	"testing"

	"cairn/api"
	"cairn/disk"
	"cairn/mend"
)

var config = api.Config{Servers: []int{1, 2, 3}, F: 1, Points: 1, Buckets: 2, Block: 3, Room: 2}

func over(t *testing.T, d *disk.Disk) *Server {
	t.Helper()
	s, err := New(config, 2, d)
	if err != api.OK {
		t.Fatal(err)
	}
	return s
}

func learnt(n int) mend.Change {
	return mend.Change{Key: instanceKey(1, n), Instance: api.Instance{Command: api.Command{Kind: api.CList, Client: 4, Op: n}, Decided: true}}
}

// some is a step of all kinds of records: new ones, in the place of others, dropped ones.
func some() []record {
	block := func(index, n int) mend.Change {
		return mend.Change{Key: api.Key{Kind: api.KBlock, A: 4, B: 2, C: index}, Block: api.Block{Stamp: api.Stamp{N: n, Client: 4}, Data: []byte{1, 2, byte(n)}}}
	}
	return []record{
		{Change: block(0, 2)}, {Change: block(1, 1)},
		{Change: mend.Change{Key: bucketKey(1), Bucket: api.Bucket{Upto: 4}}}, {Change: mend.Change{Key: bucketKey(0), Bucket: api.Bucket{Upto: 1}}},
		{Change: mend.Change{Key: instanceKey(1, 1)}, gone: true}, {Change: mend.Change{Key: instanceKey(1, 2)}, gone: true},
		{Change: learnt(7)}, {Change: learnt(6)}, {Change: mend.Change{Key: instanceKey(0, 1), Instance: learnt(1).Instance}},
	}
}

// lived is a server that holds something under half of the keys of that step.
func lived(t *testing.T) (*Server, *disk.Disk) {
	t.Helper()
	d, err := disk.New(120)
	if err != api.OK {
		t.Fatal(err)
	}
	s := over(t, d)
	first := some()[:1]
	first[0].Block.Stamp.N = 1
	first = append(first, record{Change: learnt(1)}, record{Change: learnt(2)}, record{Change: mend.Change{Key: bucketKey(1), Bucket: api.Bucket{Upto: 3}}}, record{Change: mend.Change{Key: instanceKey(1, 6), Instance: api.Instance{Promised: api.Stamp{N: 1, Client: 1}}}})
	if err := s.do(first); err != api.OK {
		t.Fatal(err)
	}
	return s, d
}

func mustRemember(t *testing.T, got, want memory) {
	t.Helper()
	if told(got) != told(want) {
		t.Fatalf("in memory there is\n%s\nnot\n%s", told(got), told(want))
	}
}

// told is a memory as text, without rows in which nothing is.
func told(m memory) string {
	rows := map[int]map[int]api.Instance{}
	for number, row := range m.rows {
		if len(row) > 0 {
			rows[number] = row
		}
	}
	return fmt.Sprint(m.blocks, m.buckets, rows)
}

// Ways: what a step had begun to change in memory is put back where the disk fell: there is what lies on the disk whole, and nothing else.
func TestWaysPutBack(t *testing.T) {
	list := some()
	var behind []memory
	for n := range len(list) + 1 {
		s, d := lived(t)
		s.Arm(n)
		if s.do(list) != api.ErrFallen {
			t.Fatal("it has not fallen")
		}
		behind = append(behind, over(t, d).memory)
		mustRemember(t, s.memory, behind[n])
	}
	s, d := lived(t)
	was := d.Counts().Writes
	if err := s.do(list); err != api.OK {
		t.Fatal(err)
	}
	mustRemember(t, s.memory, behind[len(list)])
	writes := d.Counts().Writes - was
	for n := range writes {
		s, d := lived(t)
		d.Arm(n, 0) // of the write at which it falls nothing lies there
		if s.do(list) != api.ErrFallen {
			t.Fatalf("it has not fallen at write %d", n)
		}
		d.Start()
		mustRemember(t, s.memory, over(t, d).memory)
	}
}

// A change that is put back leaves the memory as it was.
func TestWaysChangeAndBack(t *testing.T) {
	for _, r := range some() {
		s, _ := lived(t)
		twin, _ := lived(t)
		back := s.memory.change(r)
		if told(s.memory) == told(twin.memory) {
			t.Fatalf("%+v changes nothing", r)
		}
		back()
		mustRemember(t, s.memory, twin.memory)
	}
}

// A step without room begins to change nothing.
func TestWaysNoRoom(t *testing.T) {
	s, d := lived(t)
	s.Limit(0)
	was := d.Counts().Writes
	if err := s.do(some()); err != api.ErrFull || d.Counts().Writes != was {
		t.Fatalf("%v", err)
	}
	twin, _ := lived(t)
	mustRemember(t, s.memory, twin.memory)
}
