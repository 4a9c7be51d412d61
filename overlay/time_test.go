package overlay_test

import (
	"testing"

	"grapevine/api"
)

// P17.2: Wait: ErrArg, unless N is from 0 to 1000; else N ticks pass.
func TestWait(t *testing.T) {
	r := newRig(t, inRow(2))
	r.refuse(api.ErrArg, wait(-1), wait(1001), wait(-1<<63), wait(1<<63-1))
	r.wantNow(1)
	r.do(wait(0))
	r.wantNow(1)
	r.do(wait(3))
	r.wantNow(4)
	r.do(wait(1000))
	r.wantNow(1004)
	r.wantMarks()
}

// drain drops all frames that wait at a broker for its first neighbour; false, if none did.
func (r *rig) drain(me int) bool {
	some := false
	for r.o.Do(lift(me, 0)) == api.OK {
		r.do(drop(r.inAir() - 1))
		some = true
	}
	return some
}

// wantBeats holds against each other after which of the next ticks, one by one, a broker has something to send.
func (r *rig) wantBeats(me int, want ...bool) {
	r.t.Helper()
	for i, is := range want {
		r.do(wait(1))
		if got := r.drain(me); got != is {
			r.t.Fatalf("tick %d of %d, at %d: %v, wanted %v", i, len(want), r.o.Now(), got, is)
		}
	}
}

// P17.2: each broker has a Tick at 1 + Beat, and every Beat ticks from then on.
func TestBeats(t *testing.T) {
	r := newRig(t, inRow(2))
	for range 4 {
		r.wantBeats(0, false, false, false, false, true)
		if !r.drain(1) {
			t.Fatal("the other broker has no Tick")
		}
	}
}

// P17.2: what comes due on the way has its Tick at the tick at which it does.
func TestBeatsOnTheWay(t *testing.T) {
	r := newRig(t, inRow(1, sub(0, 0, "*")))
	r.do(subscribe(1), calm(1), connect(1))
	r.wantNow(2)
	r.wantMarks(asked(1), began(1, 0))
	r.do(deliver(1, 2))
	r.wantMarks(quiet(1, 1))
	for _, c := range []struct{ wait, now, quiet int }{{3, 5, 0}, {2, 7, 5}, {3, 10, 0}, {1, 11, 10}, {9, 20, 15}, {33, 53, 50}, {1000, 1053, 1050}} {
		r.do(wait(c.wait), deliver(1, 2))
		r.wantNow(c.now)
		if c.quiet == 0 {
			r.wantMarks()
		} else {
			r.wantMarks(quiet(1, c.quiet))
		}
	}
}

// P17.2: each Tick counts: the ones on the way are had one by one, each broker's at each beat.
func TestBeatsAll(t *testing.T) {
	r := newRig(t, inRow(2))
	r.do(wait(24)) // at 6, 11, 16 and 21: a probe each, and of the publisher's broker the promise and the last tick
	for me, n := range []int{12, 4} {
		for range n {
			r.do(lift(me, 0))
		}
		r.refuse(api.ErrGone, lift(me, 0))
	}
}

// P17.2: TickOne, Crash and Calm leave the timers as they are; what is due behind the tick is so at the present one, once, and Beat ticks later again.
func TestBeatsLate(t *testing.T) {
	r := newRig(t, inRow(2))
	r.do(wait(2), tickOne(1), crash(1))
	r.wantBeats(1, false, false, true)
	r.do(calm(2))
	r.wantNow(8)
	r.wantBeats(1, false, false, true)
	r.do(calm(9))
	r.wantNow(20)
	if r.drain(0) || r.drain(1) {
		t.Fatal("frames wait behind a calm")
	}
	r.do(wait(0), lift(1, 0))
	r.refuse(api.ErrGone, lift(1, 0))
	if !r.drain(0) {
		t.Fatal("the other broker has no Tick")
	}
	r.do(wait(0))
	r.refuse(api.ErrGone, lift(0, 0), lift(1, 0))
	r.wantBeats(1, false, false, false, false, true)
	r.do(calm(5))
	r.wantNow(30)
	r.do(wait(2), lift(1, 0))
	r.refuse(api.ErrGone, lift(1, 0))
	r.wantBeats(1, false, false, true)
}

// P17.2: the Tick of one that was late is at the present tick.
func TestBeatIsNow(t *testing.T) {
	r := newRig(t, inRow(1, sub(0, 0, "*")))
	r.do(subscribe(1), calm(11), connect(1), deliver(1, 2))
	r.wantMarks(asked(1), began(1, 0), quiet(1, 11))
	r.do(wait(0), wait(4), deliver(1, 2))
	r.wantMarks()
	r.wantNow(16)
	r.do(wait(2), deliver(1, 2))
	r.wantMarks(quiet(1, 16))
}

// P17.2: one that is down has no Tick, which is no error of Wait's; its timer goes on.
func TestBeatsDown(t *testing.T) {
	r := newRig(t, inRow(2))
	r.do(trip(0, 1))
	r.refuse(api.ErrDown, publish(0, api.Event{}))
	r.do(wait(5), crash(0))
	if r.drain(0) || !r.drain(1) {
		t.Fatal("who had a Tick")
	}
	r.wantBeats(0, false, false, false, false, true)
}

// P17.2: Calm: ErrArg, unless N is from 1 to MaxRounds; else so many ticks pass.
func TestCalm(t *testing.T) {
	r := newRig(t, inRow(2))
	r.do(tickOne(0), lift(0, 0))
	r.refuse(api.ErrArg, calm(0), calm(-1), calm(api.MaxRounds+1), calm(-1<<63), calm(1<<63-1))
	r.wantNow(1)
	r.wantAir(1)
	r.do(calm(1))
	r.wantNow(2)
	r.wantAir(0)
	r.do(calm(api.MaxRounds))
	r.wantNow(18)
	if r.drain(0) || r.drain(1) {
		t.Fatal("frames wait behind a calm")
	}
	r.wantMarks()
}

// P17.2: in a calm brokers that are down begin anew, without fates; others live on.
func TestCalmMends(t *testing.T) {
	r := newRig(t, inRow(3, sub(1, 0, "*"), sub(1, 0, "*"), sub(2, 0, "*")))
	r.do(subscribe(1), subscribe(2), subscribe(3), calm(3), connect(1), connect(2), connect(3))
	r.skipMarks()
	r.do(trip(0, 2), trip(1, 2))
	r.refuse(api.ErrDown, publish(0, priced(1, "a")), ackUp(1, 0))
	r.wantMarks(tried(0, priced(1, "a")), ackTried(1, 1))
	r.do(calm(1))
	r.wantMarks(closed(1), closed(2))
	r.wantLog(0, 0, 0, 0)
	r.do(publish(0, priced(2, "b")), calm(3), deliver(3, 16))
	r.wantMarks(told(0, 5, priced(2, "b")), got(3, 5, priced(2, "b")), quiet(3, 7))
}

// P17.2: in a calm no disk trips, whether it was down or not.
func TestCalmTripsNot(t *testing.T) {
	r := joined(t, 2)
	r.do(trip(0, 1), trip(1, 1))
	r.do(calm(1), publish(0, priced(1, "a")), calm(1), deliver(1, 1), ackUp(1, 0), calm(2))
	r.wantMarks(told(0, 4, priced(1, "a")), got(1, 4, priced(1, "a")), acked(1, 4))
	r.wantLog(0, 4, 4, 1)
}

// P17.2: in each round of a calm all frames come, and those that they call forth, however far the way is.
func TestCalmCarriesAll(t *testing.T) {
	r := newRig(t, inRow(5, sub(4, 0, "*")))
	r.do(subscribe(1), calm(1))
	r.wantState(1, true, 1)
	r.do(connect(1), publish(0, priced(1, "a")), calm(1), deliver(1, 16), ackUp(1, 0), calm(1))
	r.wantMarks(asked(1), began(1, 1), told(0, 2, priced(1, "a")), got(1, 2, priced(1, "a")), acked(1, 2))
	r.wantLog(0, 2, 1, 1)
	r.do(calm(1))
	r.wantLog(0, 2, 2, 1)
}
