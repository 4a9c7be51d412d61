package broker_test

import (
	"slices"
	"testing"

	"grapevine/api"
)

// act does one thing that may happen in a world.
func (w *world) act(d *dice, count int) {
	w.t.Helper()
	n := w.topo.Brokers
	switch x := d.roll(100); {
	case x < 15:
		w.publish(d.roll(len(w.topo.Pubs)), d.event(count))
	case x < 55:
		if len(w.topo.Subs) > 0 {
			w.read(d, 1+d.roll(len(w.topo.Subs)))
		}
	case x < 63:
		w.tick(d.roll(n))
	case x < 74:
		w.now += d.roll(3)
	case x < 84:
		w.lift(d.roll(n))
	case x < 95:
		for range 4 {
			w.land(d)
		}
	case x < 96:
		fates := make([]int, d.roll(8))
		for i := range fates {
			fates[i] = d.roll(200)
		}
		w.crash(d.roll(n), fates)
	case x < 97:
		w.disks[d.roll(n)].Trip(1 + d.roll(12))
	case x < 98:
		if pub := d.roll(len(w.topo.Pubs)); d.roll(3) == 0 {
			b, _ := w.home(pub)
			high, rel, _ := b.Log(pub)
			w.force(pub, rel+d.roll(high-rel+1))
		}
	default:
		if d.roll(8) == 0 {
			w.calm(1 + d.roll(3))
		}
	}
}

// read does one thing that a subscription may do.
func (w *world) read(d *dice, id int) {
	w.t.Helper()
	switch x := d.roll(40); {
	case x < 5:
		w.subscribe(id)
	case x < 6:
		w.unsubscribe(id)
	case x < 14:
		w.connect(id)
	case x < 15:
		w.disconnect(id)
	case x < 30:
		for range 1 + d.roll(5) {
			w.deliver(id)
		}
	default:
		w.ack(id, d.roll(4)*d.roll(3))
	}
}

// settle has all subscriptions that are on be handed what they are owed, and ack it.
func (w *world) settle() {
	w.t.Helper()
	for i := range w.readers {
		id := i + 1
		b, _ := w.at(id)
		if on, _ := b.State(id); !on {
			continue
		}
		if !w.readers[i].open {
			wantErr(w.t, "Connect", w.connect(id), api.OK)
		}
		for w.deliver(id) != api.Unknown {
		}
		if w.passes(id, w.readers[i].cursor+1, top) {
			w.t.Fatalf("subscription %d is owed something at %d", id, w.readers[i].cursor)
		}
		wantErr(w.t, "Ack", w.ack(id, 0), api.OK)
	}
}

// G1 to G5, P16.10, P16.11: whatever happens, nothing is told that may not be; and in a calm all that is owed comes, and all is released.
func TestWorlds(t *testing.T) {
	worlds := 250
	if testing.Short() {
		worlds = 30
	}
	got, lost, on := 0, 0, 0
	for seed := range worlds {
		d := dice(seed)
		w := newWorld(t, d.topo())
		for i := range 600 {
			w.act(&d, i)
			w.hold()
		}
		w.calm(12)
		for i, r := range w.readers {
			b, _ := w.at(i + 1)
			is, _ := b.State(i + 1)
			// What was broken off may not have come to be; it is off then.
			if r.asked && !is && b.Subscribe(i+1) != api.OK {
				t.Fatalf("seed %d: subscription %d is not on", seed, i+1)
			}
			if is {
				on++
			}
			got += len(r.got)
			lost += len(r.lost)
		}
		w.settle()
		w.hold()
		w.calm(4)
		w.hold()
		for pub := range w.topo.Pubs {
			b, _ := w.home(pub)
			if high, rel, used := b.Log(pub); rel != high || used > 1 {
				t.Fatalf("seed %d: log of %d: %d %d %d", seed, pub, high, rel, used)
			}
		}
	}
	if got < 2*worlds || lost < worlds/20 || on < worlds {
		t.Fatalf("%d were handed, %d were lost, %d were on: too few", got, lost, on)
	}
}

// row is the world of the document's examples: brokers 0, 1, 2 in a row, a publisher at 0, subscriptions at 2.
func row(t *testing.T, texts ...string) *world {
	t.Helper()
	var l []api.Sub
	for _, text := range texts {
		l = append(l, sub(2, 0, text))
	}
	w := newWorld(t, inRow(3, l...))
	for id := range l {
		wantErr(t, "Subscribe", w.subscribe(id+1), api.OK)
	}
	w.now = 9
	w.calm(2)
	for id := range l {
		wantErr(t, "Connect", w.connect(id+1), api.OK)
	}
	return w
}

// deliverAll is what comes for a subscription until nothing does: the ticks of all items, and how many ticks are lost.
func (w *world) deliverAll(id int) ([]int, int) {
	w.t.Helper()
	r := w.readers[id-1]
	n, lost := len(r.got), len(r.lost)
	for w.deliver(id) != api.Unknown {
	}
	return r.got[n:], len(r.lost) - lost
}

func (w *world) wantGot(id int, want ...int) {
	w.t.Helper()
	if got, lost := w.deliverAll(id); !slices.Equal(got, want) || lost != 0 {
		w.t.Fatalf("subscription %d got %v, %d lost, wanted %v", id, got, lost, want)
	}
}

// move carries the frames that wait at a broker for another one; they are lost, if they are to be.
func (w *world) move(from, to int, isLost bool) {
	for f, is := w.brokers[from].Pull(to); is; f, is = w.brokers[from].Pull(to) {
		if !isLost {
			w.brokers[to].Take(from, f, w.now)
		}
	}
}

// Examples 1 to 4 of the whole.
func TestExampleOfHandingOn(t *testing.T) {
	w := row(t, "*")
	b, _ := w.at(1)
	// Joined in the first round, at what had been promised then.
	if on, acked := b.State(1); !on || acked != 9 {
		t.Fatal("state", on, acked)
	}
	w.now = 20
	wantErr(t, "Publish", w.publish(0, priced(1, "x")), api.OK)
	w.move(0, 1, false)
	w.move(1, 2, false)
	w.wantGot(1, 20)
	w.now = 23
	wantErr(t, "Publish", w.publish(0, priced(1, "y")), api.OK)
	w.move(0, 1, false)
	w.move(1, 2, true)
	w.now = 25
	wantErr(t, "Publish", w.publish(0, priced(1, "z")), api.OK)
	w.move(0, 1, false)
	w.move(1, 2, false)
	// What was lost on the way is 21 to 23; 24 and 25 came.
	w.wantGot(1)
	wantErr(t, "Tick", w.tick(2), api.OK)
	w.move(2, 1, false)
	w.move(1, 2, false)
	w.wantGot(1, 23, 25)
	// A broker between that crashes knows again what is asked of it.
	w.now = 27
	wantErr(t, "Publish", w.publish(0, priced(1, "q")), api.OK)
	w.crash(1, nil)
	w.calm(3)
	w.wantGot(1, 27)
}

// Example 5: a publisher's broker crashes in the midst of a sync.
func TestExampleOfBrokenOff(t *testing.T) {
	for fate := range 3 {
		w := row(t, "*")
		w.now = 30
		// A sync, the head of the first segment, the record; then a sync again.
		w.disks[0].Trip(4)
		wantErr(t, "Publish", w.publish(0, priced(1, "x")), api.ErrDown)
		w.crash(0, []int{fate, fate, fate})
		wantErr(t, "Publish", w.publish(0, priced(1, "y")), api.OK)
		w.calm(4)
		got, lost := w.deliverAll(1)
		if lost != 0 || len(got) < 1 || len(got) > 2 || got[0] != 30 || len(got) == 2 && got[1] != 31 || (len(got) == 2) != (fate == 1) {
			t.Fatalf("fate %d: got %v, %d lost", fate, got, lost)
		}
	}
}

// Examples 6 and 10: what is acked goes up, and is released there.
func TestExampleOfRelease(t *testing.T) {
	w := row(t, "*", "a>5")
	for i := 20; i <= 25; i++ {
		w.now = i
		wantErr(t, "Publish", w.publish(0, priced(int64(i%2)*9, "x")), api.OK)
	}
	w.calm(1)
	w.wantGot(1, 20, 21, 22, 23, 24, 25)
	w.wantGot(2, 21, 23, 25)
	wantErr(t, "Ack", w.ack(1, 3), api.OK)
	wantErr(t, "Ack", w.ack(2, 0), api.OK)
	w.calm(2)
	w.hold()
	b, _ := w.home(0)
	_, acked := w.brokers[2].State(1)
	if high, rel, _ := b.Log(0); high != 25 || rel != acked || acked >= 25 {
		t.Fatal("released", high, rel, acked)
	}
	w.settle()
	w.calm(2)
	if high, rel, used := b.Log(0); high != 25 || rel != 25 || used != 1 {
		t.Fatal("released", high, rel, used)
	}
	// A subscription that is handed nothing holds nothing back, as long as it asks what comes.
	for range 100 {
		wantErr(t, "Publish", w.publish(0, priced(1, "y")), api.OK)
		w.calm(1)
		w.deliver(2)
		w.deliverAll(1)
		wantErr(t, "Ack", w.ack(1, 0), api.OK)
	}
}

// Examples 7 and 8: an item goes to those alone who asked for it.
func TestExampleOfSilence(t *testing.T) {
	w := row(t, "*", "a>5")
	w.now = 20
	wantErr(t, "Publish", w.publish(0, priced(3, "x")), api.OK)
	wantErr(t, "Publish", w.publish(0, priced(7, "y")), api.OK)
	w.calm(1)
	w.wantGot(1, 20, 21)
	w.wantGot(2, 21)
	o := inRow(3, sub(1, 0, "a<5"), sub(2, 0, "a>5"))
	r := newRig(t, o, 1)
	r.say(0, told(0, 20, 21, nil, item(20, 1, priced(3, "x")), item(21, 2, priced(7, "y"))))
	r.wantHeard(2, told(0, 20, 21, quiet(20, 20), item(21, 2, priced(7, "y"))))
}

// Example 9: what is released by force, and was not handed on yet, is lost.
func TestExampleOfForce(t *testing.T) {
	w := row(t, "*")
	for i := 31; i <= 45; i++ {
		w.now = i
		wantErr(t, "Publish", w.publish(0, priced(1, "x")), api.OK)
		w.move(0, 1, i >= 33 && i <= 38)
		w.move(1, 2, false)
	}
	w.wantGot(1, 31, 32)
	wantErr(t, "Force", w.force(0, 40), api.OK)
	w.calm(3)
	got, lost := w.deliverAll(1)
	if !slices.Equal(got, []int{39, 40, 41, 42, 43, 44, 45}) || lost != 6 || w.readers[0].lost[33] != 1 || w.readers[0].lost[38] != 1 {
		t.Fatalf("got %v, lost %v", got, w.readers[0].lost)
	}
}

// G2: of frames that come twice, late, or of an earlier life nothing is handed twice.
func TestFramesAgain(t *testing.T) {
	w := row(t, "*")
	var all []frame
	for i := 20; i < 30; i++ {
		w.now = i
		wantErr(t, "Publish", w.publish(0, priced(1, "x")), api.OK)
		w.lift(0)
		w.lift(1)
		if i == 25 {
			w.crash(1, nil)
		}
	}
	all = append(all, w.air...)
	for i := range 3 * len(all) {
		f := all[(i*7)%len(all)]
		w.brokers[f.to].Take(f.from, f.bytes, w.now)
		w.move(1, 2, false)
		w.deliverAll(1)
	}
	w.calm(3)
	w.deliverAll(1)
	if got := w.readers[0].got; len(got) != 10 || got[0] != 20 || got[9] != 29 {
		t.Fatal("got", got)
	}
}
