package disk

import (
	"bytes"
	"testing"

	"cairn/api"
)

// A sector of zeros has no place, whether nobody wrote it, it was loaded, written or torn so.
func TestP301ZerosNeedNoPlace(t *testing.T) {
	d, _ := New(api.MaxSectors)
	if len(d.written) != 0 {
		t.Errorf("a new disk keeps %d sectors", len(d.written))
	}
	for _, step := range []struct{ n, torn, kept int }{{5, 0, 0}, {5, 1, 1}, {6, 512, 2}, {6, 512, 2}} {
		d.Arm(0, step.torn)
		d.Write(step.n, bytes.Repeat([]byte{1}, api.Sector))
		d.Start()
		if len(d.written) != step.kept {
			t.Errorf("%v: %d sectors are kept", step, len(d.written))
		}
	}
	d.Write(6, make([]byte, api.Sector))
	d.Arm(0, 1)
	d.Write(5, make([]byte, api.Sector))
	if len(d.written) != 0 {
		t.Errorf("%d sectors of zeros are kept", len(d.written))
	}
	image := make([]byte, 9*api.Sector)
	image[4*api.Sector-1], image[7*api.Sector] = 1, 1
	if d, _ := Load(image); len(d.written) != 2 {
		t.Errorf("of an image with 2 sectors that are not zeros %d are kept", len(d.written))
	}
}

// A disk that has fallen is not armed, and arming it changes nothing.
func TestP306FallenIsNotArmed(t *testing.T) {
	d, _ := New(1)
	d.Arm(0, 3)
	d.Write(0, make([]byte, api.Sector))
	if !d.Fallen() || d.power != (steady{}) {
		t.Errorf("fallen %v, with the power %v", d.Fallen(), d.power)
	}
	d.Arm(2, 2)
	if d.power != (steady{}) {
		t.Errorf("armed though fallen: %v", d.power)
	}
}
