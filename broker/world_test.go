package broker_test

import (
	"slices"
	"testing"

	"grapevine/api"
	"grapevine/broker"
	"grapevine/event"
	"grapevine/evlog"
	"grapevine/pred"
	"grapevine/sector"
)

// frame is one in the air.
type frame struct {
	from, to int
	bytes    []byte
}

// writer is what a publisher is held against: what it told, what it tried, up to where it was released by force, and up to where it was promised that nothing comes.
type writer struct {
	told              map[int]string // events' bytes by their ticks
	tried             []string
	released, promise int
}

// reader is what a subscription is held against.
type reader struct {
	asked, fresh, open   bool
	floor, cursor, acked int
	mayAck               int         // an Ack that was broken off
	most                 int         // the greatest cursor since it was fresh
	stood                int         // the acked tick that its broker told last
	lost                 map[int]int // ticks that it was told are lost
	got                  []int       // ticks of what it was handed in this connection
}

// world is an overlay of brokers, and what all that they tell is held against.
type world struct {
	t       *testing.T
	topo    api.Topo
	now     int
	disks   []*sector.Disk
	lives   []int
	brokers []*broker.Broker
	air     []frame
	writers []*writer
	readers []*reader
}

func newWorld(t *testing.T, topo api.Topo) *world {
	t.Helper()
	n := topo.Brokers
	w := &world{t: t, topo: topo, now: 1, disks: make([]*sector.Disk, n), lives: make([]int, n), brokers: make([]*broker.Broker, n)}
	for i := range n {
		w.disks[i], _ = sector.New(api.DiskSize)
		w.begin(i)
	}
	for range topo.Pubs {
		w.writers = append(w.writers, &writer{told: map[int]string{}})
	}
	for range topo.Subs {
		w.readers = append(w.readers, &reader{lost: map[int]int{}})
	}
	return w
}

// begin makes a broker of its disk, of a new life.
func (w *world) begin(i int) {
	w.t.Helper()
	w.lives[i]++
	b, fault := broker.New(w.topo, i, w.disks[i], w.lives[i])
	wantErr(w.t, "New", fault, api.OK)
	w.brokers[i] = b
}

// at is the broker of a subscription, and whether its disk is up.
func (w *world) at(id int) (*broker.Broker, bool) {
	i := w.topo.Subs[id-1].Broker
	return w.brokers[i], !w.disks[i].Down()
}

// home is the broker of a publisher, and whether its disk is up.
func (w *world) home(pub int) (*broker.Broker, bool) {
	i := w.topo.Pubs[pub]
	return w.brokers[i], !w.disks[i].Down()
}

// writer is that of a subscription.
func (w *world) writer(id int) *writer { return w.writers[w.topo.Subs[id-1].Pub] }

// isOwn: is an event one of a subscription's?
func (w *world) isOwn(id int, body string) bool {
	e, _, _ := event.Take([]byte(body), 0)
	is, _ := pred.Eval(w.topo.Subs[id-1].Terms, e)
	return is
}

// passes: was an event of a subscription's own told of a tick of a range, but for those that it was told are lost?
func (w *world) passes(id, from, to int) bool {
	for tick, body := range w.writer(id).told {
		if from <= tick && tick <= to && w.isOwn(id, body) && w.readers[id-1].lost[tick] == 0 {
			return true
		}
	}
	return false
}

func (w *world) publish(pub int, e api.Event) api.Errno {
	w.t.Helper()
	b, isUp := w.home(pub)
	to := w.writers[pub]
	tick, fault := b.Publish(pub, e, w.now)
	switch {
	case fault == api.ErrDown && isUp:
		to.tried = append(to.tried, string(bodyOf(e)))
	case fault == api.OK:
		for other := range to.told {
			if other >= tick {
				w.t.Fatalf("publisher %d told %d behind %d", pub, tick, other)
			}
		}
		for i, s := range w.topo.Subs {
			if s.Pub == pub && w.readers[i].most >= tick {
				w.t.Fatalf("publisher %d told %d, subscription %d was at %d", pub, tick, i+1, w.readers[i].most)
			}
		}
		if tick <= to.promise || tick < w.now {
			w.t.Fatalf("publisher %d told %d at %d, promised was %d", pub, tick, w.now, to.promise)
		}
		to.told[tick] = string(bodyOf(e))
	}
	return fault
}

func (w *world) force(pub, t int) api.Errno {
	b, isUp := w.home(pub)
	fault := b.Force(pub, t)
	if fault == api.OK || fault == api.ErrDown && isUp {
		w.writers[pub].released = max(w.writers[pub].released, t)
	}
	return fault
}

func (w *world) subscribe(id int) api.Errno {
	b, isUp := w.at(id)
	fault := b.Subscribe(id)
	if fault == api.OK || fault == api.ErrDown && isUp {
		r := w.readers[id-1]
		r.asked, r.fresh, r.floor, r.stood = true, true, 0, 0
		for tick := range w.writer(id).told {
			r.floor = max(r.floor, tick)
		}
	}
	return fault
}

func (w *world) unsubscribe(id int) api.Errno {
	b, _ := w.at(id)
	fault := b.Unsubscribe(id)
	if fault == api.OK {
		w.readers[id-1].asked, w.readers[id-1].open = false, false
	}
	return fault
}

func (w *world) connect(id int) api.Errno {
	w.t.Helper()
	b, _ := w.at(id)
	at, fault := b.Connect(id)
	if fault != api.OK {
		return fault
	}
	r := w.readers[id-1]
	acked := r.acked
	if r.mayAck <= at {
		acked = max(acked, r.mayAck)
	}
	switch {
	case !r.asked:
		w.t.Fatalf("subscription %d began unasked", id)
	case r.fresh && at < r.floor:
		w.t.Fatalf("subscription %d began at %d below %d", id, at, r.floor)
	case !r.fresh && (at < r.acked || at > r.most || w.passes(id, acked+1, at)):
		w.t.Fatalf("subscription %d began at %d, it acked %d and was at %d", id, at, acked, r.most)
	}
	if r.fresh {
		r.most = 0
	}
	r.open, r.fresh, r.acked, r.mayAck, r.got = true, false, at, 0, nil
	r.cursor, r.most = at, max(r.most, at)
	return api.OK
}

func (w *world) disconnect(id int) api.Errno {
	b, _ := w.at(id)
	fault := b.Disconnect(id)
	if fault == api.OK {
		w.readers[id-1].open = false
	}
	return fault
}

// deliver is Deliver once; what it told.
func (w *world) deliver(id int) api.Know {
	w.t.Helper()
	b, _ := w.at(id)
	step, fault := b.Deliver(id)
	if fault != api.OK {
		return api.Unknown
	}
	r := w.readers[id-1]
	if !r.open || step.To < r.cursor || step.Is != api.Unknown && (step.From <= r.cursor || step.To < step.From) {
		w.t.Fatalf("subscription %d at %d: %v", id, r.cursor, step)
	}
	switch step.Is {
	case api.Data:
		w.got(id, step)
	case api.Lost:
		if step.To > w.writer(id).released {
			w.t.Fatalf("subscription %d: lost are %d to %d, released is %d", id, step.From, step.To, w.writer(id).released)
		}
		for t := step.From; t <= step.To; t++ {
			r.lost[t]++
		}
	default:
		step.From = step.To + 1
	}
	if w.passes(id, r.cursor+1, step.From-1) {
		w.t.Fatalf("subscription %d passes an event from %d to %d", id, r.cursor, step.From)
	}
	r.cursor, r.most = step.To, max(r.most, step.To)
	return step.Is
}

// got is an item that was handed: it was told, or tried, and is one of the subscription's own.
func (w *world) got(id int, step api.Step) {
	w.t.Helper()
	to, body := w.writer(id), string(step.Item.Body)
	if _, is := to.told[step.From]; !is {
		if at := slices.Index(to.tried, body); at >= 0 {
			to.tried = slices.Delete(to.tried, at, at+1)
			to.told[step.From] = body
		}
	}
	if to.told[step.From] != body || step.Item.Tick != step.From || step.To != step.From || !w.isOwn(id, body) {
		w.t.Fatalf("subscription %d got %v", id, step)
	}
	w.readers[id-1].got = append(w.readers[id-1].got, step.From)
}

// ack acks what was told but for the last ticks.
func (w *world) ack(id, less int) api.Errno {
	w.t.Helper()
	b, isUp := w.at(id)
	r := w.readers[id-1]
	_, acked := b.State(id)
	t := max(r.cursor-less, acked)
	fault := b.Ack(id, t)
	switch {
	case fault == api.OK:
		r.acked, r.mayAck = t, 0
	case fault == api.ErrDown && isUp && r.open:
		r.mayAck = max(r.mayAck, t)
	case fault == api.ErrArg:
		w.t.Fatalf("subscription %d at %d can't ack %d", id, r.cursor, t)
	}
	return fault
}

func (w *world) tick(i int) api.Errno {
	fault := w.brokers[i].Tick(w.now)
	if fault == api.OK {
		for pub, at := range w.topo.Pubs {
			if at == i {
				w.writers[pub].promise = max(w.writers[pub].promise, w.now-1)
			}
		}
	}
	return fault
}

// crash has a broker begin anew; all that was told is in its logs still.
func (w *world) crash(i int, fates []int) {
	w.t.Helper()
	wantErr(w.t, "Crash", w.disks[i].Crash(fates), api.OK)
	w.begin(i)
	for id, s := range w.topo.Subs {
		if s.Broker == i {
			w.readers[id].open = false
		}
	}
	for pub, at := range w.topo.Pubs {
		if at == i {
			w.holdLog(pub)
		}
	}
}

// holdLog: is all in the log that was told and not released?
func (w *world) holdLog(pub int) {
	w.t.Helper()
	l, fault := evlog.Open(w.disks[w.topo.Pubs[pub]].Fork(), 64+98*pub, api.LogSegs)
	wantErr(w.t, "a log", fault, api.OK)
	kept := map[int]string{}
	for _, r := range l.Events(1, top) {
		kept[r.Tick] = string(r.Body)
	}
	for tick, body := range w.writers[pub].told {
		if tick > l.Rel() && kept[tick] != body {
			w.t.Fatalf("publisher %d: the event of %d is gone", pub, tick)
		}
	}
}

// hold: acked ticks do not fall, and nothing is released that is not acked, but by force.
func (w *world) hold() {
	w.t.Helper()
	for i, s := range w.topo.Subs {
		b, _ := w.at(i + 1)
		on, acked := b.State(i + 1)
		if !on {
			continue
		}
		r := w.readers[i]
		if acked < r.stood {
			w.t.Fatalf("subscription %d had acked %d, and has %d", i+1, r.stood, acked)
		}
		r.stood = acked
		home, _ := w.home(s.Pub)
		if _, rel, _ := home.Log(s.Pub); rel > max(acked, w.writers[s.Pub].released) {
			w.t.Fatalf("publisher %d released %d, subscription %d has acked %d", s.Pub, rel, i+1, acked)
		}
	}
}

// neighbours of a broker, rising.
func (w *world) neighbours(i int) []int {
	var l []int
	for _, line := range w.topo.Lines {
		switch i {
		case line[0]:
			l = append(l, line[1])
		case line[1]:
			l = append(l, line[0])
		}
	}
	slices.Sort(l)
	return l
}

// calm is rounds in which all comes.
func (w *world) calm(rounds int) {
	w.t.Helper()
	w.air = nil
	for i, d := range w.disks {
		if d.Down() {
			w.crash(i, nil)
		}
		d.Trip(0)
	}
	for range rounds {
		w.now++
		for i := range w.brokers {
			wantErr(w.t, "Tick", w.tick(i), api.OK)
		}
		for w.carry() {
		}
	}
}

// carry takes each frame that waits to whom it is for; false, if none did.
func (w *world) carry() bool {
	some := false
	for i, b := range w.brokers {
		for _, other := range w.neighbours(i) {
			for f, is := b.Pull(other); is; f, is = b.Pull(other) {
				some = true
				w.brokers[other].Take(i, f, w.now)
			}
		}
	}
	return some
}

// lift has the next frame of a broker to each neighbour go into the air.
func (w *world) lift(i int) {
	for _, other := range w.neighbours(i) {
		if f, is := w.brokers[i].Pull(other); is {
			w.air = append(w.air, frame{i, other, f})
		}
	}
}

// land has one of the last frames in the air come, and stay there; perhaps spoilt.
func (w *world) land(d *dice) {
	if len(w.air) == 0 {
		return
	}
	f := w.air[len(w.air)-1-d.roll(min(len(w.air), 40))]
	if d.roll(30) == 0 {
		f.bytes = slices.Clone(f.bytes)
		f.bytes[d.roll(len(f.bytes))] ^= byte(1 + d.roll(255))
	}
	w.brokers[f.to].Take(f.from, f.bytes, w.now)
}
