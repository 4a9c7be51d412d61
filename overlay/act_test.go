package overlay_test

import (
	"strings"
	"testing"

	"grapevine/api"
)

// joined is brokers in a row, and a subscription of all at the last one, that is connected at tick 3, behind tick 1 (0, if the publisher is there, too: then it is on ahead of the first promise).
func joined(t *testing.T, n int) *rig {
	t.Helper()
	r := newRig(t, inRow(n, sub(n-1, 0, "*")))
	r.do(subscribe(1), calm(2), connect(1))
	r.wantMarks(asked(1), began(1, min(n-1, 1)))
	r.wantNow(3)
	return r
}

// P17.2: ErrType, unless the Deed is one; ErrArg, unless there is what it names.
func TestRefused(t *testing.T) {
	r := joined(t, 2)
	r.do(publish(0, priced(1, "x")), lift(0, 0))
	r.wantMarks(told(0, 3, priced(1, "x")))
	for _, deed := range []api.Deed{-1 << 63, -1, api.NoDeed, api.Calm + 1, 1<<63 - 1} {
		r.refuse(api.ErrType, api.Act{Do: deed}, api.Act{Do: deed, A: 1, N: 1})
	}
	for _, n := range append(far[:], 2) {
		for _, deed := range []api.Deed{api.Publish, api.Force, api.Subscribe, api.Unsubscribe, api.Connect, api.Disconnect, api.Deliver, api.AckUp, api.TickOne, api.Lift, api.Crash, api.Trip} {
			r.refuse(api.ErrArg, api.Act{Do: deed, A: n, N: 1})
		}
		for _, deed := range []api.Deed{api.Land, api.Drop, api.Spoil} {
			r.refuse(api.ErrArg, api.Act{Do: deed, N: n, A: 1, B: 1})
		}
	}
	r.refuse(api.ErrArg, publish(1, api.Event{}), force(1, 0), subscribe(0), unsubscribe(0), connect(0), disconnect(0), deliver(0, 1), ackUp(0, 0), land(1), drop(1), spoil(1, 0, 1))
	r.wantMarks()
	r.wantAir(1)
	r.wantNow(3)
}

// P17.2: ErrLimit, ahead of all else, if the trace has MaxMarks marks; one act may add more of them.
func TestMaxMarks(t *testing.T) {
	r := newRig(t, inRow(1, sub(0, 0, "*"), sub(0, 0, "*"), sub(0, 0, "*")))
	r.do(subscribe(1), subscribe(2), calm(1), connect(1), connect(2), connect(2))
	for len(r.o.Trace()) < api.MaxMarks-3 {
		r.do(subscribe(3), unsubscribe(3))
	}
	r.do(subscribe(3), calm(1), connect(3))
	r.do(crash(0))
	r.skipMarks()
	if n := len(r.o.Trace()); n != api.MaxMarks+2 {
		t.Fatalf("%d marks", n)
	}
	for deed := api.Deed(-1); deed <= api.Calm+1; deed++ {
		r.refuse(api.ErrLimit, api.Act{Do: deed, A: 1, N: 1}, api.Act{Do: deed, A: 99, N: -1})
	}
	r.wantMarks()
	r.wantNow(3)
}

// P17.2: at just MaxMarks marks nothing is done any more, at one less it is.
func TestLastMark(t *testing.T) {
	r := newRig(t, inRow(1, sub(0, 0, "*")))
	for range api.MaxMarks/2 - 1 {
		r.do(subscribe(1), unsubscribe(1))
	}
	r.do(subscribe(1), wait(1), unsubscribe(1))
	r.refuse(api.ErrLimit, wait(1), subscribe(1))
	r.wantNow(2)
	if n := len(r.o.Trace()); n != api.MaxMarks {
		t.Fatalf("%d marks", n)
	}
}

// P17.2: Publish at the tick: Told with the tick that it told; an error is told on, and makes no mark.
func TestPublish(t *testing.T) {
	r := newRig(t, inRow(1))
	r.do(publish(0, priced(1, "a")), publish(0, api.Event{}), wait(10), publish(0, priced(2, "b")))
	r.wantMarks(told(0, 1, priced(1, "a")), told(0, 2, api.Event{}), told(0, 11, priced(2, "b")))
	r.refuse(api.ErrGone, publish(0, api.Event{Attrs: []api.Attr{{Name: "b", Value: api.Value{Kind: api.Whole}}}}))
	r.refuse(api.ErrType, publish(0, api.Event{Attrs: []api.Attr{{Name: "a", Value: api.Value{Kind: api.Truth}}}}))
	r.refuse(api.ErrLimit, publish(0, api.Event{Content: make([]byte, api.MaxContent+1)}))
	r.wantMarks()
	big := priced(3, strings.Repeat("x", api.MaxContent))
	n := 0
	for r.o.Do(publish(0, big)) == api.OK {
		n++
	}
	r.refuse(api.ErrFull, publish(0, big))
	if l := r.o.Trace(); len(l) != 3+n || n < 4 {
		t.Errorf("%d marks of %d events", len(l), n)
	}
}

// P17.2: the publisher that is meant publishes, at its own broker.
func TestPublishers(t *testing.T) {
	topo := inRow(2)
	topo.Pubs = []int{0, 1, 0}
	r := newRig(t, topo)
	r.do(publish(1, priced(1, "a")), publish(2, priced(2, "b")), publish(1, priced(3, "c")), force(1, 1))
	r.wantMarks(told(1, 1, priced(1, "a")), told(2, 1, priced(2, "b")), told(1, 2, priced(3, "c")), released(1, 1))
	r.wantLog(0, 0, 0, 0)
	r.wantLog(1, 2, 1, 1)
	r.wantLog(2, 1, 0, 1)
}

// P17.2: a Publish that is broken off is Tried; of a broker that was down ahead of it there is no mark. Which fate its writes had tells whether it was done.
func TestTried(t *testing.T) {
	for _, done := range []bool{true, false} {
		r := joined(t, 1)
		r.do(publish(0, priced(1, "a")))
		r.do(trip(0, 2)) // its sync
		r.refuse(api.ErrDown, publish(0, priced(2, "b")))
		r.wantMarks(told(0, 3, priced(1, "a")), tried(0, priced(2, "b")))
		r.refuse(api.ErrDown, publish(0, priced(3, "c")), publish(0, api.Event{Content: make([]byte, 999)}), force(0, 1), subscribe(1), unsubscribe(1), connect(1), disconnect(1), deliver(1, 1), ackUp(1, 0), tickOne(0), trip(0, 0))
		r.wantMarks()
		r.wantLog(0, 0, 0, 0)
		r.wantState(1, false, 0)
		if done {
			r.do(crash(0, 1, 1))
		} else {
			r.do(crash(0, 0, 0))
		}
		r.wantMarks(closed(1))
		r.do(connect(1), deliver(1, 9), publish(0, priced(4, "d")))
		if done {
			r.wantMarks(began(1, 0), got(1, 3, priced(1, "a")), got(1, 4, priced(2, "b")), told(0, 5, priced(4, "d")))
		} else {
			r.wantMarks(began(1, 0), got(1, 3, priced(1, "a")), told(0, 4, priced(4, "d")))
		}
	}
}

// P17.2: Force of N: Released, also if it was broken off, or there was nothing to release; not of what may not be, nor of one that was down.
func TestForce(t *testing.T) {
	r := newRig(t, inRow(1))
	r.do(publish(0, priced(1, "a")), publish(0, priced(2, "b")), publish(0, priced(3, "c")))
	r.skipMarks()
	r.refuse(api.ErrArg, force(0, 4), force(0, -1))
	r.wantMarks()
	r.do(force(0, 2), force(0, 1), force(0, 0))
	r.wantMarks(released(0, 2), released(0, 1), released(0, 0))
	r.wantLog(0, 3, 2, 1)
	r.do(trip(0, 1))
	r.refuse(api.ErrDown, force(0, 3))
	r.wantMarks(released(0, 3))
	r.refuse(api.ErrDown, force(0, 3))
	r.wantMarks()
}

// P17.2: Subscribe: Asked, also if it was broken off.
func TestSubscribe(t *testing.T) {
	r := newRig(t, inRow(2, sub(0, 0, "*"), sub(1, 0, "*")))
	r.do(subscribe(2))
	r.wantMarks(asked(2))
	r.refuse(api.ErrKnown, subscribe(2))
	r.do(trip(0, 1))
	r.wantMarks()
	r.refuse(api.ErrDown, subscribe(1))
	r.wantMarks(asked(1))
	r.refuse(api.ErrDown, subscribe(1))
	r.wantMarks()
	r.do(calm(2))
	r.wantState(1, false, 0)
	r.wantState(2, true, 1)
}

// P17.2: Unsubscribe: Ended, and it is not connected: a crash closes nothing then. One that was broken off is not marked.
func TestUnsubscribe(t *testing.T) {
	r := joined(t, 2)
	r.do(unsubscribe(1))
	r.wantMarks(ended(1))
	r.refuse(api.ErrGone, unsubscribe(1))
	r.refuse(api.ErrBusy, deliver(1, 1), disconnect(1), ackUp(1, 0))
	r.do(crash(1))
	r.wantMarks()
	r.do(subscribe(1), calm(2), connect(1))
	r.skipMarks()
	r.do(trip(1, 1))
	r.refuse(api.ErrDown, unsubscribe(1))
	r.wantMarks()
	r.do(crash(1))
	r.wantMarks(closed(1))
}

// P17.2: Connect: Began, behind its acked tick, which is its cursor then, also if it is connected.
func TestConnect(t *testing.T) {
	r := newRig(t, inRow(2, sub(1, 0, "*")))
	r.refuse(api.ErrBusy, connect(1))
	r.do(subscribe(1))
	r.refuse(api.ErrBusy, connect(1))
	r.do(calm(2), connect(1), publish(0, priced(1, "a")), publish(0, priced(2, "b")), calm(1), deliver(1, 1))
	r.wantMarks(asked(1), began(1, 1), told(0, 3, priced(1, "a")), told(0, 4, priced(2, "b")), got(1, 3, priced(1, "a")))
	r.do(connect(1), ackUp(1, 0), deliver(1, 2), ackUp(1, 1), connect(1), deliver(1, 2))
	r.wantMarks(began(1, 1), acked(1, 1), got(1, 3, priced(1, "a")), got(1, 4, priced(2, "b")), acked(1, 3), began(1, 3), got(1, 4, priced(2, "b")))
}

// P17.2: Disconnect: Closed.
func TestDisconnect(t *testing.T) {
	r := joined(t, 2)
	r.do(disconnect(1))
	r.wantMarks(closed(1))
	r.refuse(api.ErrBusy, disconnect(1), deliver(1, 1), ackUp(1, 0))
	r.do(crash(1))
	r.wantMarks()
}

// P17.2: AckUp: of its cursor less N, not below its acked tick.
func TestAckUp(t *testing.T) {
	r := joined(t, 2)
	r.do(wait(7), publish(0, priced(1, "a")), wait(5), publish(0, priced(2, "b")), calm(1), deliver(1, 9))
	r.wantMarks(told(0, 10, priced(1, "a")), told(0, 15, priced(2, "b")), got(1, 10, priced(1, "a")), got(1, 15, priced(2, "b")))
	r.do(ackUp(1, 99), ackUp(1, 1<<63-1), ackUp(1, 15), ackUp(1, 14), ackUp(1, 13))
	r.wantMarks(acked(1, 1), acked(1, 1), acked(1, 1), acked(1, 1), acked(1, 2))
	r.do(ackUp(1, 6), ackUp(1, 8), ackUp(1, 1))
	r.wantMarks(acked(1, 9), acked(1, 9), acked(1, 14))
	r.wantState(1, true, 14)
	r.do(ackUp(1, -1), ackUp(1, 0), ackUp(1, -1<<63))
	r.wantMarks(acked(1, 15), acked(1, 15), acked(1, 15))
	r.wantState(1, true, 15)
}

// P17.2: an AckUp that was broken off is AckTried, of one that was down it is nothing.
func TestAckTried(t *testing.T) {
	r := joined(t, 2)
	r.do(publish(0, priced(1, "a")), calm(1), deliver(1, 9), trip(1, 2))
	r.skipMarks()
	r.refuse(api.ErrDown, ackUp(1, 1))
	r.wantMarks(ackTried(1, 2))
	r.refuse(api.ErrDown, ackUp(1, 0))
	r.wantMarks()
	r.do(crash(1, 1), connect(1))
	r.wantMarks(closed(1), began(1, 2))
}

// P17.2: Deliver N times, from 1 to 16, until nothing comes; of nothing there is a mark only if it is news.
func TestDeliver(t *testing.T) {
	r := joined(t, 2)
	var all []api.Mark
	for i := range 18 {
		e := priced(int64(i), "x")
		r.do(publish(0, e), calm(1))
		all = append(all, got(1, i+3, e))
	}
	r.skipMarks()
	for _, n := range []int{1, 0, -1, -1 << 63} {
		r.do(deliver(1, n))
		r.wantMarks(all[0])
		all = all[1:]
	}
	r.do(deliver(1, 3))
	r.wantMarks(all[:3]...)
	r.do(connect(1), deliver(1, 16))
	r.seen++
	r.wantMarks(append([]api.Mark{got(1, 3, priced(0, "x")), got(1, 4, priced(1, "x")), got(1, 5, priced(2, "x")), got(1, 6, priced(3, "x"))}, all[:12]...)...)
	for _, n := range []int{17, 1<<63 - 1} {
		r.do(connect(1), deliver(1, n))
		r.seen++
		if l := r.o.Trace(); len(l) != r.seen+16 {
			t.Fatalf("Deliver of %d: %v", n, l[r.seen:])
		}
		r.skipMarks()
	}
	r.do(deliver(1, 9), deliver(1, 9))
	r.wantMarks(all[12:]...)
	r.do(calm(1), deliver(1, 9), deliver(1, 9))
	r.wantMarks(quiet(1, 21))
}

// P17.2: items, what is lost and what is silent, each with its mark; what comes behind nothing waits for the next act.
func TestDeliverKinds(t *testing.T) {
	r := newRig(t, inRow(1, sub(0, 0, "a>5")))
	r.do(subscribe(1), calm(2), connect(1))
	r.do(publish(0, priced(6, "a")), publish(0, priced(7, "b")), publish(0, priced(1, "c")), publish(0, priced(8, "d")), publish(0, priced(2, "e")))
	r.do(force(0, 4), crash(0), calm(1), connect(1))
	r.skipMarks()
	r.do(deliver(1, 16))
	r.wantMarks(gap(1, 1, 4), got(1, 6, priced(8, "d")), quiet(1, 7))
	r.do(ackUp(1, 0), publish(0, priced(9, "f")))
	r.wantMarks(acked(1, 7), told(0, 8, priced(9, "f")))
	r.do(connect(1), deliver(1, 1), deliver(1, 1))
	r.wantMarks(began(1, 7), got(1, 8, priced(9, "f")))
}

// P17.2: TickOne: the broker's Tick, at the tick, of that broker alone.
func TestTickOne(t *testing.T) {
	r := newRig(t, inRow(2))
	r.do(wait(3), tickOne(1), lift(1, 0))
	r.refuse(api.ErrGone, lift(0, 0))
	r.do(tickOne(0), publish(0, priced(1, "a")), crash(0), publish(0, priced(2, "b")))
	r.wantMarks(told(0, 4, priced(1, "a")), told(0, 5, priced(2, "b")))
	r.do(trip(1, 1), crash(1), tickOne(1))
}

// P17.2: a Tick that is broken off is told on.
func TestTickDown(t *testing.T) {
	r := joined(t, 1)
	r.do(publish(0, priced(1, "a")), deliver(1, 1), ackUp(1, 0), trip(0, 1))
	r.skipMarks()
	r.refuse(api.ErrDown, tickOne(0), tickOne(0))
	r.wantMarks()
}

// P17.2: Crash: the broker begins anew, of a later life; what was connected is closed, in the order of the numbers; others stay as they are.
func TestCrash(t *testing.T) {
	topo := inRow(2, sub(1, 0, "*"), sub(0, 0, "*"), sub(1, 0, "*"), sub(1, 0, "*"))
	r := newRig(t, topo)
	r.do(subscribe(1), subscribe(2), subscribe(3), subscribe(4), calm(2), connect(4), connect(1), connect(2), connect(3), disconnect(3))
	r.do(tickOne(1), lift(1, 0))
	r.skipMarks()
	r.do(crash(1))
	r.wantMarks(closed(1), closed(4))
	r.do(crash(1))
	r.wantMarks()
	r.do(deliver(2, 1), tickOne(1), lift(1, 0), land(1))
	r.refuse(api.ErrStale, land(0))
	r.skipMarks()
	r.do(crash(0))
	r.wantMarks(closed(2))
}

// P17.2: Trip is the disk's.
func TestTrip(t *testing.T) {
	r := newRig(t, inRow(2, sub(1, 0, "*")))
	r.refuse(api.ErrArg, trip(0, -1), trip(1, -1<<63))
	r.do(trip(0, 1), trip(0, 0), publish(0, priced(1, "a")))
	r.do(trip(0, 5), trip(1, 1), trip(0, 1))
	r.refuse(api.ErrDown, publish(0, priced(1, "b")), trip(0, 1), trip(0, -1), subscribe(1))
}
