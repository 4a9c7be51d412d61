package broker_test

import (
	"math"
	"testing"

	"grapevine/api"
)

// P16.7
func TestTickArgs(t *testing.T) {
	r := newRig(t, inRow(2, sub(0, 0, "*")), 0)
	for _, bad := range []int{-1, top + 1, math.MaxInt, math.MinInt} {
		wantErr(t, "Tick", r.b.Tick(bad), api.ErrArg)
	}
	if l, probes := r.heard(1); len(l) != 0 || probes != 0 {
		t.Fatal("an error sends", l, probes)
	}
	r.tick(0)
	r.tick(top)
}

// P16.7: what a subscription says, each tick, to all that are Up.
func TestSaid(t *testing.T) {
	o := diamond()
	o.Subs = []api.Sub{sub(3, 0, "*"), sub(3, 0, "*"), sub(3, 1, "*")}
	o.Pubs = []int{0, 4}
	r := newRig(t, o, 3)
	r.tick(0)
	r.wantHeard(1)
	r.wantHeard(2)
	for id := 1; id <= 3; id++ {
		wantErr(t, "Subscribe", r.b.Subscribe(id), api.OK)
	}
	for range 2 {
		r.tick(0)
		r.wantHeard(1, says(api.Join, 0, 1, 1, 0), says(api.Join, 0, 2, 1, 0), says(api.Join, 1, 3, 1, 0))
		r.wantHeard(2, says(api.Join, 0, 1, 1, 0), says(api.Join, 0, 2, 1, 0))
	}
	r.say(2, says(api.Grant, 0, 2, 1, 7))
	r.say(1, says(api.Grant, 1, 3, 1, 9))
	wantErr(t, "Unsubscribe", r.b.Unsubscribe(1), api.OK)
	wantErr(t, "Unsubscribe", r.b.Unsubscribe(3), api.OK)
	r.tick(0)
	r.wantHeard(1, says(api.Leave, 0, 1, 1, 0), says(api.Ack, 0, 2, 1, 7), says(api.Leave, 1, 3, 1, 0))
	r.wantHeard(2, says(api.Leave, 0, 1, 1, 0), says(api.Ack, 0, 2, 1, 7))
	wantErr(t, "Subscribe", r.b.Subscribe(3), api.OK)
	r.tick(0)
	r.wantHeard(1, says(api.Leave, 0, 1, 1, 0), says(api.Ack, 0, 2, 1, 7), says(api.Join, 1, 3, 2, 0))
}

// P16.7: behind what is said, all neighbours have a probe.
func TestProbes(t *testing.T) {
	r := newRig(t, diamond(), 1)
	r.tick(0)
	for other := range 5 {
		l, probes := r.heard(other)
		if want := 1; len(l) != 0 || other != 1 && probes != want || other == 1 && probes != 0 {
			t.Fatal("to", other, l, probes)
		}
	}
}

// P16.7: what is promised is handed on, then the last tick of which something is known.
func TestPromise(t *testing.T) {
	r := newRig(t, inRow(2, sub(1, 0, "*")), 0)
	r.tick(0)
	r.wantHeard(1)
	r.tick(1)
	r.wantHeard(1)
	r.tick(2)
	r.wantHeard(1, told(0, 1, 1, quiet(1, 1)), told(0, 1, 1, quiet(1, 1)))
	r.tick(9)
	r.wantHeard(1, told(0, 2, 8, quiet(2, 8)), told(0, 8, 8, quiet(8, 8)))
	// A tick that is not above it promises nothing.
	r.tick(9)
	r.wantHeard(1, told(0, 8, 8, quiet(8, 8)))
	r.tick(3)
	r.wantHeard(1, told(0, 8, 8, quiet(8, 8)))
	r.say(1, says(api.Join, 0, 1, 1, 0))
	r.wantHeard(1, says(api.Grant, 0, 1, 1, 8))
	r.publish(0, priced(1, "x"), 12, 12)
	r.wantHeard(1, told(0, 9, 12, quiet(9, 11), item(12, 1, priced(1, "x"))))
	r.tick(12)
	r.wantHeard(1, told(0, 12, 12, nil, item(12, 1, priced(1, "x"))))
	r.tick(14)
	r.wantHeard(1, told(0, 13, 13, quiet(13, 13)), told(0, 13, 13, quiet(13, 13)))
	r.say(1, says(api.Ack, 0, 1, 1, 12))
	r.tick(14)
	r.wantLog(0, 12, 12, 1)
	// What is released is lost, as far as it is the last one that is known.
	r.publish(0, priced(1, "y"), 14, 14)
	r.say(1, says(api.Ack, 0, 1, 1, 14))
	r.heard(1)
	r.tick(14)
	r.wantHeard(1, told(0, 14, 14, lost(14, 14)))
}

// P16.7: items lead to those Down alone that reach somebody who has asked for them.
func TestPromiseReach(t *testing.T) {
	o := diamond()
	r := newRig(t, o, 0)
	r.say(1, says(api.Join, 0, 1, 1, 0))
	r.say(1, says(api.Join, 0, 2, 1, 0))
	r.heard(1)
	r.heard(2)
	e := priced(3, "x")
	r.publish(0, e, 1, 1)
	// Subscription 1 and 2 behind 1, subscription 1 behind 2.
	r.wantHeard(1, told(0, 1, 1, nil, item(1, 3, e)))
	r.wantHeard(2, told(0, 1, 1, nil, item(1, 3, e)))
	r.say(1, says(api.Leave, 0, 1, 1, 0))
	r.publish(0, e, 2, 2)
	r.wantHeard(1, told(0, 2, 2, nil, item(2, 2, e)))
	r.wantHeard(2, told(0, 2, 2, quiet(2, 2)))
	r.publish(0, priced(7, "y"), 3, 3)
	r.wantHeard(1, told(0, 3, 3, quiet(3, 3)))
	// Who an item is for is told as it is now: both items are on their way anew.
	r.say(1, says(api.Join, 0, 3, 1, 0))
	r.heard(1)
	r.say(1, wants(0, 1, 3))
	r.wantHeard(1, told(0, 1, 3, nil, item(1, 6, e), item(2, 6, e), item(3, 4, priced(7, "y"))))
}

// P16.7: the log is chopped up to the least tick that is acked by those that are on.
func TestChop(t *testing.T) {
	r := newRig(t, inRow(2, sub(1, 0, "*"), sub(1, 0, "*"), sub(1, 0, "*")), 0)
	for id := 1; id <= 3; id++ {
		r.say(1, says(api.Join, 0, id, 1, 0))
	}
	for i := 1; i <= 9; i++ {
		r.publish(0, priced(1, "x"), i, i)
	}
	r.tick(1)
	r.wantLog(0, 9, 0, 1)
	r.say(1, says(api.Ack, 0, 1, 1, 8))
	r.say(1, says(api.Ack, 0, 2, 1, 5))
	r.say(1, says(api.Ack, 0, 3, 1, 3))
	r.wantLog(0, 9, 0, 1)
	r.tick(1)
	r.wantLog(0, 9, 3, 1)
	r.say(1, says(api.Leave, 0, 3, 1, 0))
	r.tick(1)
	r.wantLog(0, 9, 5, 1)
	r.say(1, says(api.Ack, 0, 2, 1, 99))
	r.tick(1)
	r.wantLog(0, 9, 8, 1)
	r.say(1, says(api.Ack, 0, 1, 1, 99))
	r.tick(1)
	r.wantLog(0, 9, 9, 1)
	r.publish(0, priced(1, "x"), 10, 10)
	r.say(1, says(api.Leave, 0, 1, 1, 0))
	r.say(1, says(api.Leave, 0, 2, 1, 0))
	r.tick(1)
	r.wantLog(0, 10, 10, 1)
}

// P16.7: a subscription that is on wants what its broker's stream does not know, from behind its acked tick on.
func TestWants(t *testing.T) {
	o := diamond()
	o.Pubs, o.Subs = []int{0}, []api.Sub{sub(3, 0, "*"), sub(3, 0, "*")}
	r := newRig(t, o, 3)
	wantErr(t, "Subscribe", r.b.Subscribe(1), api.OK)
	r.tick(9)
	r.wantHeard(1, says(api.Join, 0, 1, 1, 0))
	r.say(1, says(api.Grant, 0, 1, 1, 4))
	acks := func(at int) api.Parcel { return says(api.Ack, 0, 1, 1, at) }
	r.heard(2)
	r.tick(0)
	r.wantHeard(1, acks(4))
	r.tick(5)
	r.wantHeard(1, acks(4))
	r.tick(6)
	r.wantHeard(1, acks(4), wants(0, 5, 5))
	r.tick(9)
	r.wantHeard(1, acks(4), wants(0, 5, 8))
	r.wantHeard(2, acks(4), acks(4), acks(4), wants(0, 5, 5), acks(4), wants(0, 5, 8))
	r.say(2, told(0, 5, 20, quiet(5, 6), item(8, 1, priced(1, "x"))))
	r.tick(9)
	r.wantHeard(2, acks(4), wants(0, 7, 7))
	r.tick(12)
	r.wantHeard(2, acks(4), wants(0, 7, 11))
	// Up to the last tick that is known, if that is later.
	r.say(1, told(0, 20, 20, quiet(20, 20)))
	r.tick(12)
	r.wantHeard(2, acks(4), wants(0, 7, 19))
	r.say(1, told(0, 7, 19, quiet(7, 7), item(8, 1, priced(1, "x"))))
	r.say(1, told(0, 9, 19, quiet(9, 19)))
	r.tick(21)
	r.wantHeard(2, acks(4))
	r.tick(22)
	r.wantHeard(2, acks(4), wants(0, 21, 21))
	// The least one of those that are on counts; one that is asked does not.
	wantErr(t, "Subscribe", r.b.Subscribe(2), api.OK)
	r.tick(22)
	r.wantHeard(2, acks(4), says(api.Join, 0, 2, 1, 0), wants(0, 21, 21))
	r.say(1, says(api.Grant, 0, 2, 1, 2))
	r.tick(22)
	r.wantHeard(2, acks(4), says(api.Ack, 0, 2, 1, 2), wants(0, 3, 21))
	wantErr(t, "Unsubscribe", r.b.Unsubscribe(1), api.OK)
	wantErr(t, "Unsubscribe", r.b.Unsubscribe(2), api.OK)
	r.tick(22)
	r.wantHeard(2, says(api.Leave, 0, 1, 1, 0), says(api.Leave, 0, 2, 1, 0))
}

// P16.7: up to the last ticks there are.
func TestWantsLast(t *testing.T) {
	r := newRig(t, inRow(2, sub(1, 0, "*")), 1)
	wantErr(t, "Subscribe", r.b.Subscribe(1), api.OK)
	r.say(0, says(api.Grant, 0, 1, 1, top-1))
	r.tick(top)
	r.wantHeard(0, says(api.Ack, 0, 1, 1, top-1))
	r.say(0, told(0, top, top, quiet(top, top)))
	r.connect(1, top-1)
	r.wantNothing(1, top)
	wantErr(t, "Ack", r.b.Ack(1, top), api.OK)
	r.tick(top)
	r.wantHeard(0, says(api.Ack, 0, 1, 1, top))
}

// P16.7: elsewhere, too, the last tick that is known is handed on each time.
func TestLastHandedOn(t *testing.T) {
	r := newRig(t, inRow(3, sub(2, 0, "*")), 1)
	r.tick(9)
	r.wantHeard(2)
	r.say(0, told(0, 1, 7, quiet(1, 4), item(7, 1, priced(1, "x"))))
	r.heard(2)
	r.tick(9)
	r.wantHeard(2, told(0, 7, 7, nil, item(7, 1, priced(1, "x"))))
	r.wantHeard(0)
	r.tick(3)
	r.wantHeard(2, told(0, 7, 7, nil, item(7, 1, priced(1, "x"))))
}

// P16.7, P16.3: at the publisher's broker what the stream has forgotten is learnt again from the log.
func TestForgotten(t *testing.T) {
	r := newRig(t, inRow(1, sub(0, 0, "*")), 0)
	wantErr(t, "Subscribe", r.b.Subscribe(1), api.OK)
	r.tick(1)
	r.connect(1, 0)
	n := 0
	for range api.MaxKeep + 6 {
		if n++; n == 50 {
			wantErr(t, "Force", r.b.Force(0, 40), api.OK)
		}
		r.publish(0, priced(1, "x"), n, n)
	}
	r.wantNothing(1, 0)
	r.tick(1)
	// The first six are gone for good.
	r.wantStep(1, api.Step{Is: api.Lost, From: 1, To: 6})
	r.wantItem(1, 7, 1, priced(1, "x"))
}

// P16.7: once the last item that was handed is acked, what follows it and is silent, or lost, is acked, too.
func TestSettle(t *testing.T) {
	r := newRig(t, inRow(1, sub(0, 0, "a>5")), 0)
	wantErr(t, "Subscribe", r.b.Subscribe(1), api.OK)
	r.tick(1)
	r.publish(0, priced(9, "x"), 5, 5)
	r.publish(0, priced(1, "y"), 8, 8)
	r.tick(20)
	// Nothing was handed: neither is it connected, nor did its cursor go on.
	r.wantState(1, true, 0)
	r.connect(1, 0)
	r.tick(20)
	r.wantState(1, true, 0)
	r.wantItem(1, 5, 1, priced(9, "x"))
	r.wantNothing(1, 19)
	r.tick(20)
	r.wantState(1, true, 0)
	wantErr(t, "Ack", r.b.Ack(1, 4), api.OK)
	r.tick(20)
	r.wantState(1, true, 4)
	r.wantLog(0, 8, 4, 1)
	wantErr(t, "Ack", r.b.Ack(1, 5), api.OK)
	r.tick(20)
	r.wantState(1, true, 19)
	if got := r.cell(0, 8); got != 19 {
		t.Fatal("a cell", got)
	}
	// It is said at once, so the log is free.
	r.wantLog(0, 8, 8, 1)
	wantErr(t, "Ack", r.b.Ack(1, 18), api.ErrArg)
	r.wantNothing(1, 19)
	// One that is not connected stays where it is.
	r.tick(30)
	r.wantNothing(1, 29)
	wantErr(t, "Disconnect", r.b.Disconnect(1), api.OK)
	r.tick(31)
	r.wantState(1, true, 19)
	r.connect(1, 19)
	r.wantNothing(1, 30)
	r.tick(31)
	r.wantState(1, true, 30)
}

// P16.7: where nothing has changed, a tick leaves the disk alone.
func TestTickWritesNothing(t *testing.T) {
	r := started(t)
	r.publish(0, priced(1, "x"), 5, 5)
	r.connect(1, 0)
	r.wantItem(1, 5, 1, priced(1, "x"))
	wantErr(t, "Ack", r.b.Ack(1, 5), api.OK)
	r.tick(6)
	wantErr(t, "Trip", r.disk.Trip(1), api.OK)
	r.tick(6)
	r.tick(9)
	if r.disk.Down() {
		t.Fatal("it writes")
	}
}

// P16.3, P16.5: at the publisher's broker the stream keeps the items of the subscriptions here alone, so it does not forget them for those of others.
func TestOwnItemsAlone(t *testing.T) {
	r := newRig(t, inRow(2, sub(0, 0, "a>5"), sub(1, 0, "*")), 0)
	wantErr(t, "Subscribe", r.b.Subscribe(1), api.OK)
	r.say(1, says(api.Join, 0, 2, 1, 0))
	r.tick(1)
	r.connect(1, 0)
	r.publish(0, priced(9, "x"), 1, 1)
	for i := 2; i <= 2*api.MaxKeep; i++ {
		if i%20 == 0 {
			wantErr(t, "Force", r.b.Force(0, i-1), api.OK)
		}
		r.publish(0, priced(1, "y"), i, i)
	}
	r.wantItem(1, 1, 3, priced(9, "x"))
	r.wantNothing(1, 2*api.MaxKeep)
}

// P16.7: what is lost is no item, so it does not wait for an Ack.
func TestSettleLost(t *testing.T) {
	r := newRig(t, inRow(2, sub(1, 0, "*")), 1)
	wantErr(t, "Subscribe", r.b.Subscribe(1), api.OK)
	r.say(0, says(api.Grant, 0, 1, 1, 2))
	r.say(0, told(0, 3, 9, lost(3, 6), item(9, 1, priced(1, "x"))))
	r.connect(1, 2)
	r.wantStep(1, api.Step{Is: api.Lost, From: 3, To: 6})
	r.tick(0)
	r.wantState(1, true, 6)
	r.wantNothing(1, 6)
}

// P16.11, P16.7: a tick that is broken off while it acks leaves the one tick, or the other.
func TestSettleTrips(t *testing.T) {
	trips(t, func() *rig {
		r := started(t)
		r.publish(0, priced(1, "x"), 5, 5)
		r.connect(1, 0)
		r.wantItem(1, 5, 1, priced(1, "x"))
		r.tick(9)
		r.wantNothing(1, 8)
		wantErr(t, "Ack", r.b.Ack(1, 5), api.OK)
		return r
	}, func(r *rig) api.Errno { return r.b.Tick(9) }, func(r *rig, n int) {
		on, acked := r.b.State(1)
		if !on || acked != 5 && acked != 8 || n > 2 && acked != 8 {
			t.Fatal("behind a crash", on, acked)
		}
		r.tick(10)
		r.wantLog(0, 5, 5, 1)
	})
}

// P16.7: what finds no room on a link is dropped, and nothing else comes of it.
func TestNoRoom(t *testing.T) {
	r := newRig(t, inRow(2, sub(1, 0, "*")), 0)
	r.say(1, says(api.Join, 0, 1, 1, 0))
	for i := 1; i <= 40; i++ {
		r.publish(0, priced(1, "x"), i, i)
	}
	r.tick(50)
	l, probes := r.heard(1)
	if len(l) != api.MaxQueue || probes != 0 || l[0].Kind != api.Grant || l[31].From != 31 {
		t.Fatal("what waits", len(l), probes)
	}
	r.say(1, wants(0, 1, 49))
	l, _ = r.heard(1)
	if len(l) != 5 || len(l[4].Items) != 8 || l[4].To != 49 || l[4].Spans[0] != quiet(41, 49)[0] {
		t.Fatal("what is wanted", l)
	}
}
