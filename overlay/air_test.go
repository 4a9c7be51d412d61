package overlay_test

import (
	"bytes"
	"testing"

	"grapevine/api"
)

// star is brokers 0, 1 and 3 around 2, with the publisher in the midst.
func star(t *testing.T) *rig {
	t.Helper()
	return newRig(t, api.Topo{Brokers: 4, Lines: [][2]int{{0, 2}, {1, 2}, {2, 3}}, Pubs: []int{2}, Subs: []api.Sub{sub(0, 0, "*"), sub(3, 0, "*")}})
}

// P17.2: Lift: the next frame to the neighbour with that number goes into the air, behind the others.
func TestLift(t *testing.T) {
	r := star(t)
	r.do(tickOne(2))
	for i, to := range []int{0, 1, 3} {
		r.do(lift(2, i))
		if a, b, f := r.o.Air(i); a != 2 || b != to || len(f) == 0 {
			t.Errorf("frame %d: from %d to %d", i, a, b)
		}
		r.refuse(api.ErrGone, lift(2, i))
	}
	for _, n := range append(far[:], 3) {
		r.refuse(api.ErrArg, lift(2, n))
	}
	r.refuse(api.ErrArg, lift(0, 1), lift(3, 1))
	r.refuse(api.ErrGone, lift(0, 0), lift(3, 0))
	r.do(tickOne(0), trip(0, 1))
	r.refuse(api.ErrDown, subscribe(1))
	r.refuse(api.ErrGone, lift(0, 0))
	r.wantAir(3)
}

// P17.2: ErrFull, if MaxAir frames are in the air, ahead of there being none; ErrArg ahead of it.
func TestAirIsFull(t *testing.T) {
	r := newRig(t, inRow(2))
	for range api.MaxAir {
		r.do(tickOne(0), lift(0, 0))
	}
	r.wantAir(api.MaxAir)
	r.refuse(api.ErrFull, lift(0, 0), lift(1, 0))
	r.do(tickOne(0))
	r.refuse(api.ErrFull, lift(0, 0))
	r.refuse(api.ErrArg, lift(0, 1))
	r.do(drop(255), lift(0, 0))
	r.wantAir(api.MaxAir)
	r.do(calm(1))
	r.wantAir(0)
}

// P17.2: Land: whom it is for takes it, from whom it is; it stays in the air.
func TestLand(t *testing.T) {
	r := star(t)
	r.do(tickOne(0), lift(0, 0), tickOne(3), lift(3, 0), land(1))
	r.refuse(api.ErrGone, lift(2, 0), lift(2, 1))
	r.do(lift(2, 2), land(2))
	r.refuse(api.ErrKnown, land(1), land(2))
	r.do(land(0), lift(2, 0), land(3))
	r.wantAir(4)
	for i, to := range [][2]int{{0, 2}, {3, 2}, {2, 3}, {2, 0}} {
		if a, b, _ := r.o.Air(i); a != to[0] || b != to[1] {
			t.Errorf("frame %d: from %d to %d", i, a, b)
		}
	}
	r.do(trip(2, 1))
	r.refuse(api.ErrDown, publish(0, api.Event{}), land(0))
}

// P17.2: a frame is taken at the tick: what is heard so counts then. A Join that lands has the subscription be on at the tick's promise.
func TestLandDoes(t *testing.T) {
	r := newRig(t, inRow(2, sub(1, 0, "*")))
	r.do(subscribe(1), wait(5), lift(1, 0), land(0))
	for r.o.Do(lift(0, 0)) == api.OK {
		r.o.Do(land(r.inAir() - 1))
	}
	r.wantState(1, true, 5)
}

// P17.2: Drop: it is taken out, and those behind it move up.
func TestDrop(t *testing.T) {
	r := star(t)
	r.do(tickOne(2), lift(2, 0), lift(2, 1), lift(2, 2), drop(1))
	for i, to := range []int{0, 3} {
		if _, b, _ := r.o.Air(i); b != to {
			t.Errorf("frame %d is to %d", i, b)
		}
	}
	r.wantAir(2)
	r.refuse(api.ErrArg, drop(2), land(2))
	r.do(drop(1), drop(0))
	r.wantAir(0)
	r.refuse(api.ErrArg, drop(0))
}

// P17.2: Spoil: once a byte of a frame is changed by a xor; that it is so stays with the frame.
func TestSpoil(t *testing.T) {
	r := star(t)
	r.do(tickOne(2), lift(2, 0), lift(2, 1), lift(2, 2))
	_, _, was := r.o.Air(1)
	last := len(was) - 1
	for _, n := range []int{-1 << 63, -1, last + 1, 1<<63 - 1} {
		r.refuse(api.ErrArg, spoil(1, n, 1))
	}
	r.refuse(api.ErrArg, spoil(1, 0, 0), spoil(1, 0, 256), spoil(1, 0, -1), spoil(1, 0, 1<<63-1), spoil(1, 0, -1<<63), spoil(1, 0, 257))
	if _, _, b := r.o.Air(1); !bytes.Equal(b, was) {
		t.Fatal("what was refused has changed a frame")
	}
	r.do(spoil(1, last, 255))
	want := bytes.Clone(was)
	want[last] ^= 255
	if _, _, b := r.o.Air(1); !bytes.Equal(b, want) {
		t.Fatalf("a frame %v, wanted %v", b, want)
	}
	r.refuse(api.ErrKnown, spoil(1, last, 255), spoil(1, -1, 0))
	r.refuse(api.ErrSum, land(1))
	r.do(spoil(2, 0, 1))
	r.refuse(api.ErrForm, land(2))
	r.do(drop(1), land(0))
	r.refuse(api.ErrKnown, spoil(1, 0, 1))
	r.do(spoil(0, 0, 1), drop(0), drop(0), tickOne(2), lift(2, 0), spoil(0, 4, 1))
}
