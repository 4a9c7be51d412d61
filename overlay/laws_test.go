package overlay_test

import (
	"slices"
	"testing"

	"grapevine/api"
	"grapevine/broker"
	"grapevine/event"
	"grapevine/octet"
	"grapevine/parcel"
	"grapevine/pred"
	"grapevine/seal"
)

// parcelOf is what a frame carries; false, if it has none.
func parcelOf(t *testing.T, frame []byte) (api.Parcel, bool) {
	t.Helper()
	s, _, fault := seal.Open(frame, 0)
	if fault != api.OK {
		t.Fatalf("a frame that is none: error %d", fault)
	}
	if s.Kind != 1 {
		return api.Parcel{}, false
	}
	at := 0
	for range 3 {
		_, at, _ = octet.TakeUint(s.Body, at)
	}
	p, fault := parcel.Take(s.Body[at:])
	if fault != api.OK {
		t.Fatalf("a frame without a parcel: error %d", fault)
	}
	return p, true
}

// lets: do a subscription's terms let an event through?
func lets(s api.Sub, e api.Event) bool {
	is, fault := pred.Eval(s.Terms, e)
	return is && fault == api.OK
}

// holdItems: a frame has items only if it goes down, and those alone that lead to a subscription there; how many it has.
func holdItems(t *testing.T, topo api.Topo, from, to int, frame []byte) int {
	t.Helper()
	p, is := parcelOf(t, frame)
	if !is || len(p.Items) == 0 {
		return 0
	}
	if p.Kind != api.Tell || !slices.Contains(broker.Down(topo, p.Pub, from), to) {
		t.Fatalf("from %d to %d goes %v", from, to, p)
	}
	reach := broker.Reach(topo, p.Pub, to)
	for _, item := range p.Items {
		e, _, fault := event.Take(item.Body, 0)
		if fault != api.OK || item.For&reach == 0 {
			t.Fatalf("from %d to %d, whose reach is %b, goes %v", from, to, reach, item)
		}
		for id, s := range topo.Subs {
			if item.For>>id&1 == 1 && (s.Pub != p.Pub || !lets(s, e)) {
				t.Fatalf("subscription %d does not ask for %v", id+1, item)
			}
		}
	}
	return len(p.Items)
}

// P17.3: whatever is ahead, items go down alone, and only those that lead to a subscription there.
func TestItemsGoDown(t *testing.T) {
	worlds := 60
	if testing.Short() {
		worlds = 15
	}
	items := 0
	for seed := range worlds {
		d := dice(seed)
		topo := d.topo()
		r := newRig(t, topo)
		for i := range 400 {
			if a := d.act(topo, i, 0); a.Do != api.Lift {
				r.o.Do(a)
			}
			for line := range 4 * topo.Brokers {
				for r.o.Do(lift(line/4, line%4)) == api.OK {
					from, to, b := r.o.Air(0)
					items += holdItems(t, topo, from, to, b)
					if d.roll(4) > 0 {
						r.o.Do(land(0))
					}
					r.do(drop(0))
				}
			}
		}
	}
	if items < 10*worlds {
		t.Fatalf("%d items went, too few", items)
	}
}

// A subscription of some events at the far end is told of silence where others are; no item of those goes there.
func TestItemsStay(t *testing.T) {
	topo := inRow(3, sub(1, 0, "*"), sub(2, 0, "a>5"))
	r := newRig(t, topo)
	r.do(subscribe(1), subscribe(2), calm(2), connect(1), connect(2))
	r.skipMarks()
	r.do(publish(0, priced(3, "x")), publish(0, priced(6, "y")))
	var counts [2]int // items from 0 to 1, and from 1 to 2
	for i := range 2 {
		for r.o.Do(lift(i, i)) == api.OK {
			from, to, b := r.o.Air(0)
			counts[i] += holdItems(t, topo, from, to, b)
			r.do(land(0), drop(0))
		}
	}
	if counts != [2]int{2, 1} {
		t.Fatalf("items went: %v", counts)
	}
	r.do(deliver(1, 9), deliver(2, 9))
	r.skipMarks()
	if l := r.o.Trace(); len(l) < 3 || !sameMark(l[len(l)-1], got(2, 4, priced(6, "y"))) || !sameMark(l[len(l)-2], got(1, 4, priced(6, "y"))) || !sameMark(l[len(l)-3], got(1, 3, priced(3, "x"))) {
		t.Fatalf("a trace: %v", l)
	}
}

// owed are the ticks of a publisher's events that a subscription asks for and that were told behind a tick, and those that it got.
func owed(topo api.Topo, l []api.Mark, id, behind int) (told, got []int) {
	s := topo.Subs[id-1]
	for _, m := range l {
		switch {
		case m.Is == api.Told && m.A == s.Pub && m.From > behind && lets(s, m.Event):
			told = append(told, m.From)
		case m.Is == api.Got && m.A == id:
			got = append(got, m.From)
		}
	}
	return told, got
}

// P17.4: in the calm, without anything else, all that subscriptions ask for comes, each event once, in order.
func TestCalmBrings(t *testing.T) {
	worlds := 60
	if testing.Short() {
		worlds = 15
	}
	all := 0
	for seed := range worlds {
		d := dice(seed)
		topo := d.topo()
		r := newRig(t, topo)
		for id := range topo.Subs {
			r.do(subscribe(id + 1))
		}
		r.do(calm(2))
		for id := range topo.Subs {
			r.do(connect(id + 1))
		}
		began := r.o.Now() - 2
		for i := range 40 {
			for range d.roll(3) {
				r.do(publish(d.roll(len(topo.Pubs)), d.event(i)))
			}
			r.do(calm(1))
			for id := range topo.Subs {
				r.do(deliver(id+1, 16))
				r.do(ackUp(id+1, d.roll(3)))
			}
		}
		r.do(calm(1))
		l := r.o.Trace()
		for id := range topo.Subs {
			r.do(deliver(id+1, 16))
			told, got := owed(topo, l, id+1, began)
			if !slices.Equal(told, got) {
				t.Fatalf("seed %d, subscription %d: told %v, got %v", seed, id+1, told, got)
			}
			all += len(got)
		}
	}
	if all < 10*worlds {
		t.Fatalf("%d events came, too few", all)
	}
}

// isAskedFor: is a subscription to be on, by its last marks? One that was broken off may be.
func isAskedFor(l []api.Mark, id int) bool {
	is := false
	for _, m := range l {
		if m.A == id && (m.Is == api.Asked || m.Is == api.Ended) {
			is = m.Is == api.Asked
		}
	}
	return is
}

// P17.5 (G4), G5: behind twelve rounds of a calm, whatever was ahead of it, each subscription that is asked for is on, and is handed all that it is owed; where all ack all, the logs are free.
func TestCalmEndsAll(t *testing.T) {
	worlds := 150
	if testing.Short() {
		worlds = 25
	}
	some := 0
	for seed := range worlds {
		d := dice(seed)
		topo := d.topo()
		r := newRig(t, topo)
		for i := range 500 {
			r.o.Do(d.act(topo, i, r.inAir()))
		}
		r.do(calm(12))
		for id := 1; id <= len(topo.Subs); id++ {
			on, _ := r.o.State(id)
			if !on && isAskedFor(r.o.Trace(), id) && r.o.Do(subscribe(id)) != api.OK {
				t.Fatalf("seed %d: subscription %d is not on", seed, id)
			}
			if !on {
				continue
			}
			n := len(r.o.Trace())
			r.do(connect(id))
			for range 8 {
				r.do(deliver(id, 16))
			}
			l := r.o.Trace()
			told, got := owed(topo, l, id, l[n].From)
			for _, m := range l[n:] {
				if m.Is == api.Gap {
					told = slices.DeleteFunc(told, func(tick int) bool { return m.From <= tick && tick <= m.To })
				}
			}
			_, ahead := owed(topo, l[:n], id, 0)
			for _, tick := range told {
				if !slices.Contains(got[len(ahead):], tick) {
					t.Fatalf("seed %d, subscription %d: told %v, got %v", seed, id, told, got[len(ahead):])
				}
			}
			some += len(told)
			r.do(ackUp(id, 0))
		}
		r.do(calm(4))
		for pub := range topo.Pubs {
			if high, rel, used := r.o.Log(pub); rel != high || used > 1 {
				t.Fatalf("seed %d: log of %d: %d %d %d", seed, pub, high, rel, used)
			}
		}
	}
	if some < worlds/2 {
		t.Fatalf("%d events were owed, too few", some)
	}
}

// move has all frames that wait at a broker for a neighbour come, or be lost.
func (r *rig) move(me, b int, isLost bool) {
	r.t.Helper()
	for r.o.Do(lift(me, b)) == api.OK {
		last := r.inAir() - 1
		if !isLost {
			r.do(land(last))
		}
		r.do(drop(last))
	}
}

// The document's examples 1 to 4, 6 and 10, in one: the row of three brokers, whose tick is 20 by then.
func TestExamples(t *testing.T) {
	r := newRig(t, inRow(3, sub(2, 0, "*")))
	r.do(subscribe(1), wait(17), calm(2), connect(1))
	r.wantNow(20)
	r.wantMarks(asked(1), began(1, 18))
	x, y, z := priced(1, "x"), priced(2, "y"), priced(3, "z")
	r.do(publish(0, x))
	r.move(0, 0, false)
	r.move(1, 1, false)
	r.do(deliver(1, 1))
	r.wantMarks(told(0, 20, x), got(1, 20, x))
	r.do(wait(3), publish(0, y))
	r.wantMarks(told(0, 23, y))
	r.move(0, 0, false)
	r.move(1, 1, true)
	r.do(wait(2), publish(0, z))
	r.move(0, 0, false)
	r.move(1, 1, false)
	r.do(deliver(1, 9))
	r.wantMarks(told(0, 25, z))
	r.do(tickOne(2))
	r.move(2, 0, false)
	r.move(1, 1, false)
	r.do(deliver(1, 9))
	r.wantMarks(got(1, 23, y), got(1, 25, z))
	r.do(crash(1), ackUp(1, 0), calm(2))
	r.wantMarks(acked(1, 25))
	r.wantLog(0, 25, 25, 1)
	r.do(publish(0, x), calm(2), deliver(1, 9))
	r.wantMarks(told(0, 27, x), got(1, 27, x), quiet(1, 28))
}

// The document's example 9: what is released by force ahead of being handed out is lost, and told so.
func TestExampleForce(t *testing.T) {
	r := newRig(t, inRow(2, sub(1, 0, "*")))
	r.do(subscribe(1), wait(28), calm(2), connect(1), publish(0, priced(1, "x")), calm(1), deliver(1, 9), ackUp(1, 0))
	r.wantMarks(asked(1), began(1, 29), told(0, 31, priced(1, "x")), got(1, 31, priced(1, "x")), acked(1, 31))
	for i := range 6 {
		r.do(wait(1), publish(0, priced(int64(i), "y")))
	}
	r.do(force(0, 38), publish(0, priced(7, "z")))
	r.skipMarks()
	r.move(0, 0, true)
	r.do(crash(0), calm(3), deliver(1, 9))
	r.wantMarks(gap(1, 32, 38), got(1, 39, priced(7, "z")), quiet(1, 40))
}
