package disk_test

import (
	"bytes"
	"testing"

	"cairn/api"
	"cairn/disk"
)

func TestP301Example1(t *testing.T) {
	for _, n := range []int{0, 65537} {
		if d, err := disk.New(n); d != nil || err != api.ErrSectors {
			t.Errorf("New(%d): %v", n, err)
		}
	}
	for _, n := range []int{511, 0} {
		if d, err := disk.Load(make([]byte, n)); d != nil || err != api.ErrSectors {
			t.Errorf("Load of %d bytes: %v", n, err)
		}
	}
}

func TestP305Examples2And3(t *testing.T) {
	d := made(t, 2)
	mustWrite(t, d, 0, full(7), api.OK)
	mustRead(t, d, 0, full(7))
	mustRead(t, d, 1, full(0))
	mustNotRead(t, d, 2, api.ErrRange)
	mustNotRead(t, d, -1, api.ErrRange)
	mustWrite(t, d, 1, make([]byte, 511), api.ErrLength)
	mustCount(t, d, 2, 1)

	d.Arm(1, 3)
	mustWrite(t, d, 1, full(9), api.OK)
	mustWrite(t, d, 0, full(8), api.ErrFallen)
	mustStand(t, d, false)
	mustNotRead(t, d, 0, api.ErrFallen)
	want := bytes.Join([][]byte{{8, 8, 8}, full(7)[3:], full(9)}, nil)
	mustHold(t, d, want)
	mustCount(t, d, 2, 3)
	d.Start()
	mustRead(t, d, 0, want[:512])
	mustWrite(t, d, 0, full(1), api.OK)
}

func TestP306Example4(t *testing.T) {
	d := loaded(t, full(5))
	d.Arm(0, 0)
	mustWrite(t, d, 0, full(6), api.ErrFallen)
	mustHold(t, d, full(5))
	d.Start()
	d.Arm(0, 600)
	mustWrite(t, d, 0, full(6), api.ErrFallen)
	mustHold(t, d, full(6))
	d.Start()
	d.Arm(0, 5)
	d.Arm(2, 5)
	mustWrite(t, d, 0, full(7), api.OK)
	mustWrite(t, d, 0, full(8), api.OK)
	mustWrite(t, d, 0, full(9), api.ErrFallen)
	mustHold(t, d, append([]byte{9, 9, 9, 9, 9}, full(8)[5:]...))
}

func TestP305Example5(t *testing.T) {
	d := made(t, 1)
	d.Arm(1, 0)
	mustWrite(t, d, 1, full(1), api.ErrRange)
	mustWrite(t, d, 0, full(1)[:511], api.ErrLength)
	mustWrite(t, d, 0, full(1), api.OK)
	mustWrite(t, d, 0, full(2), api.ErrFallen)
}

func TestP307Example6(t *testing.T) {
	d := made(t, 1)
	d.Arm(0, 1)
	d.Start()
	mustWrite(t, d, 0, full(1), api.OK)
}
