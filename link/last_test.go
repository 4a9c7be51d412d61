package link

import (
	"bytes"
	"testing"

	"grapevine/api"
	"grapevine/seal"
)

// P14.1: no frame has a number above MaxFrames; what waits then stays. So many frames are not made in a test: the last number is set.
func TestLastFrame(t *testing.T) {
	l, _ := New(3, 2)
	l.last = api.MaxFrames - 1
	l.Probe()
	l.Probe()
	b, ok := l.Pull()
	want, _ := seal.Seal(2, []byte("\x03\x00\x80\x80\x80\x80\x80\x20"))
	if !ok || !bytes.Equal(b, want) {
		t.Fatalf("the last frame: % x, %v", b, ok)
	}
	for range 2 {
		if b, ok := l.Pull(); ok || b != nil || l.Waits() != 1 {
			t.Fatalf("behind the last frame: % x, %v, %d wait", b, ok, l.Waits())
		}
	}
	if l.Send(api.Parcel{Kind: api.Want, From: 1, To: 1}) != api.OK || l.Probe() != api.ErrFull || l.Waits() != 2 {
		t.Fatal("what waits behind the last frame")
	}
	if b, ok := l.Fork().Pull(); ok || b != nil {
		t.Fatal("a fork goes on behind the last frame")
	}
}

// P1: a link that no call made takes no frame amiss.
func TestMadeByNobody(t *testing.T) {
	var l Link
	l.Send(api.Parcel{Kind: api.Want, From: 1, To: 1})
	l.Probe()
	l.Pull()
	b, _ := seal.Seal(2, []byte{1, 0, 1})
	l.Take(b, 0)
	l.Take(nil, 0)
	l.Alive(0)
	l.Lives()
	l.Fork().Waits()
}
