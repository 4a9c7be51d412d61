package broker_test

import (
	"math"
	"testing"

	"grapevine/api"
)

// started is a broker with a publisher and a subscription of all its events, which is on from tick 0 on.
func started(t *testing.T) *rig {
	t.Helper()
	r := newRig(t, inRow(1, sub(0, 0, "*")), 0)
	wantErr(t, "Subscribe", r.b.Subscribe(1), api.OK)
	r.tick(1)
	r.wantState(1, true, 0)
	return r
}

// P16.6
func TestSubscribe(t *testing.T) {
	r := newRig(t, inRow(2, sub(1, 0, "*"), sub(1, 0, "*")), 1)
	if r.cell(0, 0) != -1 {
		t.Fatal("a cell ahead of all")
	}
	wantErr(t, "Subscribe", r.b.Subscribe(1), api.OK)
	wantErr(t, "Subscribe", r.b.Subscribe(1), api.ErrKnown)
	if got := r.cell(0, 0); got != 4*1+1 {
		t.Fatal("a cell", got)
	}
	r.wantState(1, false, 0)
	_, fault := r.b.Connect(1)
	wantErr(t, "Connect", fault, api.ErrBusy)
	// It lasts.
	r.crash()
	wantErr(t, "Subscribe", r.b.Subscribe(1), api.ErrKnown)
	wantErr(t, "Unsubscribe", r.b.Unsubscribe(1), api.OK)
	if got := r.cell(0, 0); got != 4*1 {
		t.Fatal("a cell", got)
	}
	wantErr(t, "Unsubscribe", r.b.Unsubscribe(1), api.ErrGone)
	wantErr(t, "Subscribe", r.b.Subscribe(1), api.OK)
	if got := r.cell(0, 0); got != 4*2+1 {
		t.Fatal("a cell", got)
	}
	r.say(0, says(api.Grant, 0, 1, 2, 9))
	r.wantState(1, true, 9)
	wantErr(t, "Subscribe", r.b.Subscribe(1), api.ErrKnown)
	if r.cell(0, 1) != -1 || r.cell(0, 9) != -1 {
		t.Fatal("cells of another one")
	}
}

// P16.6: the last number.
func TestSubscribeLast(t *testing.T) {
	r := newRig(t, inRow(1, sub(0, 0, "*")), 0)
	r.setCell(0, 0, 4*(api.MaxNumber-1))
	r.crash()
	wantErr(t, "Subscribe", r.b.Subscribe(1), api.OK)
	wantErr(t, "Unsubscribe", r.b.Unsubscribe(1), api.OK)
	wantErr(t, "Subscribe", r.b.Subscribe(1), api.ErrLimit)
	if got := r.cell(0, 0); got != 4*api.MaxNumber {
		t.Fatal("a cell", got)
	}
	r.tick(5)
}

// P16.6
func TestUnsubscribe(t *testing.T) {
	r := started(t)
	r.connect(1, 0)
	wantErr(t, "Unsubscribe", r.b.Unsubscribe(1), api.OK)
	r.wantState(1, false, 0)
	_, fault := r.b.Deliver(1)
	wantErr(t, "Deliver", fault, api.ErrBusy)
	wantErr(t, "Disconnect", r.b.Disconnect(1), api.ErrBusy)
	_, fault = r.b.Connect(1)
	wantErr(t, "Connect", fault, api.ErrBusy)
	// At the next tick the publisher's broker has it off, too.
	r.publish(0, priced(1, "x"), 5, 5)
	r.tick(6)
	r.wantLog(0, 5, 5, 1)
	if got := r.cell(32, 0); got != 2*1 {
		t.Fatal("a cell", got)
	}
	// Anew, it begins behind what was.
	wantErr(t, "Subscribe", r.b.Subscribe(1), api.OK)
	r.tick(9)
	r.wantState(1, true, 5)
	if a, b := r.cell(0, 0), r.cell(32, 0); a != 4*2+2 || b != 2*2+1 {
		t.Fatal("cells", a, b)
	}
}

// P16.6
func TestConnect(t *testing.T) {
	r := started(t)
	wantErr(t, "Disconnect", r.b.Disconnect(1), api.ErrBusy)
	_, fault := r.b.Deliver(1)
	wantErr(t, "Deliver", fault, api.ErrBusy)
	wantErr(t, "Ack", r.b.Ack(1, 0), api.ErrBusy)
	r.publish(0, priced(1, "x"), 5, 5)
	r.publish(0, priced(1, "y"), 6, 6)
	r.connect(1, 0)
	r.wantItem(1, 5, 1, priced(1, "x"))
	r.wantItem(1, 6, 1, priced(1, "y"))
	// Also if it was connected, it begins behind what is acked.
	r.connect(1, 0)
	r.wantItem(1, 5, 1, priced(1, "x"))
	wantErr(t, "Ack", r.b.Ack(1, 6), api.ErrArg)
	wantErr(t, "Ack", r.b.Ack(1, 5), api.OK)
	r.connect(1, 5)
	wantErr(t, "Disconnect", r.b.Disconnect(1), api.OK)
	wantErr(t, "Disconnect", r.b.Disconnect(1), api.ErrBusy)
	_, fault = r.b.Deliver(1)
	wantErr(t, "Deliver", fault, api.ErrBusy)
	r.connect(1, 5)
	r.wantItem(1, 6, 1, priced(1, "y"))
	r.wantNothing(1, 6)
	r.wantNothing(1, 6)
}

// P16.6
func TestAck(t *testing.T) {
	r := started(t)
	r.publish(0, priced(1, "x"), 5, 5)
	r.publish(0, priced(1, "y"), 8, 8)
	r.connect(1, 0)
	wantErr(t, "Ack", r.b.Ack(1, 1), api.ErrArg)
	wantErr(t, "Ack", r.b.Ack(1, -1), api.ErrArg)
	wantErr(t, "Ack", r.b.Ack(1, 0), api.OK)
	r.wantItem(1, 5, 1, priced(1, "x"))
	for _, bad := range []int{-1, 6, 8, top, math.MaxInt, math.MinInt} {
		wantErr(t, "Ack", r.b.Ack(1, bad), api.ErrArg)
	}
	wantErr(t, "Ack", r.b.Ack(1, 4), api.OK)
	r.wantState(1, true, 4)
	wantErr(t, "Ack", r.b.Ack(1, 3), api.ErrArg)
	wantErr(t, "Ack", r.b.Ack(1, 5), api.OK)
	if got := r.cell(0, 8); got != 5 {
		t.Fatal("a cell", got)
	}
	r.wantItem(1, 8, 1, priced(1, "y"))
	wantErr(t, "Ack", r.b.Ack(1, 8), api.OK)
	r.wantState(1, true, 8)
	r.crash()
	r.wantState(1, true, 8)
	// What is acked here is acked at the publisher's part at the next tick.
	r.wantLog(0, 8, 0, 1)
	r.tick(9)
	r.wantLog(0, 8, 8, 1)
}

// P16.6: two subscriptions of one publisher have cursors of their own, and each its own items.
func TestTwoCursors(t *testing.T) {
	r := newRig(t, inRow(1, sub(0, 0, "*"), sub(0, 0, "a>5")), 0)
	wantErr(t, "Subscribe", r.b.Subscribe(1), api.OK)
	wantErr(t, "Subscribe", r.b.Subscribe(2), api.OK)
	r.tick(1)
	r.publish(0, priced(3, "x"), 5, 5)
	r.publish(0, priced(9, "y"), 8, 8)
	r.connect(1, 0)
	r.connect(2, 0)
	r.wantItem(2, 8, 3, priced(9, "y"))
	r.wantItem(1, 5, 1, priced(3, "x"))
	r.wantItem(1, 8, 3, priced(9, "y"))
	wantErr(t, "Ack", r.b.Ack(2, 8), api.OK)
	r.tick(9)
	r.wantLog(0, 8, 0, 1)
	r.wantNothing(2, 8)
	wantErr(t, "Ack", r.b.Ack(1, 7), api.OK)
	r.tick(10)
	r.wantLog(0, 8, 7, 1)
}

// P16.11, P16.6: an Ack that is broken off leaves the one tick, or the other.
func TestAckTrips(t *testing.T) {
	for n := 1; n <= 2; n++ {
		for fate := range 64 * 3 {
			r := started(t)
			r.publish(0, priced(1, "x"), 5, 5)
			r.connect(1, 0)
			r.wantItem(1, 5, 1, priced(1, "x"))
			wantErr(t, "Ack", r.b.Ack(1, 3), api.OK)
			r.disk.Trip(n)
			wantErr(t, "Ack", r.b.Ack(1, 5), api.ErrDown)
			r.crash(fate)
			on, acked := r.b.State(1)
			if !on || acked != 3 && (acked != 5 || n == 1) {
				t.Fatal("behind a crash", n, fate, on, acked)
			}
			if fate%3 == 1 && n == 2 && acked != 5 {
				t.Fatal("what was written is gone", acked)
			}
		}
	}
}

// P16.6: Subscribe and Unsubscribe that are broken off come to be, or not.
func TestSubscribeTrips(t *testing.T) {
	for n := 1; n <= 2; n++ {
		for fate := range 3 {
			r := newRig(t, inRow(1, sub(0, 0, "*")), 0)
			r.disk.Trip(n)
			wantErr(t, "Subscribe", r.b.Subscribe(1), api.ErrDown)
			r.crash(fate)
			if got := r.cell(0, 0); got != -1 && got != 4*1+1 {
				t.Fatal("a cell", got)
			}
			r = started(t)
			r.connect(1, 0)
			r.disk.Trip(n)
			wantErr(t, "Unsubscribe", r.b.Unsubscribe(1), api.ErrDown)
			r.crash(fate)
			if got := r.cell(0, 0); got != 4*1 && got != 4*1+2 {
				t.Fatal("a cell", got)
			}
		}
	}
}

// trips has a call trip at each of its writes and syncs, and crash with each fate alike; it tells how many there are.
func trips(t *testing.T, make func() *rig, call func(r *rig) api.Errno, hold func(r *rig, n int)) int {
	t.Helper()
	for n := 1; ; n++ {
		for fate := range 3 {
			r := make()
			wantErr(t, "Trip", r.disk.Trip(n), api.OK)
			if fault := call(r); fault == api.OK {
				return n - 1
			} else {
				wantErr(t, "a call that trips", fault, api.ErrDown)
			}
			wantShut(t, r.b, api.ErrDown)
			r.crash(fate, fate, fate, fate)
			hold(r, n)
		}
	}
}

// P16.9, P16.11: a Join that is broken off anywhere, at the publisher's broker, is joined again.
func TestJoinTrips(t *testing.T) {
	n := trips(t, func() *rig {
		r := newRig(t, inRow(1, sub(0, 0, "*")), 0)
		r.publish(0, priced(1, "x"), 5, 5)
		wantErr(t, "Subscribe", r.b.Subscribe(1), api.OK)
		return r
	}, func(r *rig) api.Errno { return r.b.Tick(5) }, func(r *rig, n int) {
		if on, acked := r.b.State(1); on && acked != 5 {
			t.Fatal("on, from", acked)
		}
		r.tick(6)
		r.wantState(1, true, 5)
		r.publish(0, priced(1, "y"), 7, 7)
		r.connect(1, 5)
		r.wantItem(1, 7, 1, priced(1, "y"))
	})
	// Two cells each at the publisher's part and at the subscription's one, and that of the released tick.
	if n != 10 {
		t.Fatal("writes and syncs:", n)
	}
}

// P16.9: a Leave that is broken off is said again.
func TestLeaveTrips(t *testing.T) {
	trips(t, func() *rig {
		r := started(t)
		wantErr(t, "Unsubscribe", r.b.Unsubscribe(1), api.OK)
		return r
	}, func(r *rig) api.Errno { return r.b.Tick(5) }, func(r *rig, n int) {
		r.wantState(1, false, 0)
		r.tick(6)
		if got := r.cell(32, 0); got != 2*1 {
			t.Fatal("a cell", got)
		}
	})
}

// P16.8: a Grant that is broken off is taken again.
func TestGrantTrips(t *testing.T) {
	trips(t, func() *rig {
		r := newRig(t, inRow(2, sub(1, 0, "*")), 1)
		wantErr(t, "Subscribe", r.b.Subscribe(1), api.OK)
		return r
	}, func(r *rig) api.Errno { return r.trySay(0, says(api.Grant, 0, 1, 1, 7)) }, func(r *rig, n int) {
		if on, acked := r.b.State(1); on && acked != 7 {
			t.Fatal("on, from", acked)
		}
		r.say(0, says(api.Grant, 0, 1, 1, 7))
		r.wantState(1, true, 7)
	})
}

// P16.10: an event whose publishing is broken off is in the log, or it is not, and its tick is not told again.
func TestPublishTrips(t *testing.T) {
	for _, count := range []int{0, 1, 14, 15} {
		trips(t, func() *rig {
			r := started(t)
			for i := range count {
				r.publish(0, priced(1, "x"), 0, i+1)
			}
			return r
		}, func(r *rig) api.Errno {
			_, fault := r.b.Publish(0, priced(2, "y"), 40)
			return fault
		}, func(r *rig, n int) {
			high, _, _ := r.b.Log(0)
			recs := r.records(0)
			if len(recs) < count || len(recs) > count+1 || high != count && high != 40 {
				t.Fatal("records", len(recs), "of", count, "high", high)
			}
			r.publish(0, priced(3, "z"), 40, max(high+1, 40))
			r.connect(1, 0)
			for i := range count {
				r.wantItem(1, i+1, 1, priced(1, "x"))
			}
			if high == 40 {
				r.wantItem(1, 40, 1, priced(2, "y"))
			}
			r.wantItem(1, max(high+1, 40), 1, priced(3, "z"))
		})
	}
}

// P16.3: a broker that is made anew tells just what the old one would have.
func TestNewAgain(t *testing.T) {
	r := started(t)
	r.publish(0, priced(1, "x"), 5, 5)
	r.tick(12)
	r.publish(0, priced(1, "y"), 12, 12)
	r.connect(1, 0)
	r.wantItem(1, 5, 1, priced(1, "x"))
	wantErr(t, "Ack", r.b.Ack(1, 5), api.OK)
	r.crash()
	_, fault := r.b.Deliver(1)
	wantErr(t, "Deliver", fault, api.ErrBusy)
	r.connect(1, 5)
	r.wantItem(1, 12, 1, priced(1, "y"))
	r.wantNothing(1, 12)
}

// P4: a fork of the disk is another broker's.
func TestForkOfDisk(t *testing.T) {
	r := started(t)
	d := r.disk.Fork()
	r.publish(0, priced(1, "x"), 5, 5)
	other := &rig{t: t, topo: r.topo, me: 0, life: 1, disk: d}
	other.begin()
	other.wantLog(0, 0, 0, 0)
	other.publish(0, priced(1, "y"), 7, 7)
	r.wantLog(0, 5, 0, 1)
}
