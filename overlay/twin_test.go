package overlay_test

import (
	"bytes"
	"cmp"
	"slices"
	"testing"

	"grapevine/api"
	"grapevine/broker"
	"grapevine/event"
	"grapevine/sector"
)

// twin is a second reading of the chapter, over the same brokers and disks: timers are ticks in a list, time passes tick by tick, and nothing is shared with the overlay.
type twin struct {
	topo      api.Topo
	now       int
	disks     []*sector.Disk
	lives     []int
	brokers   []*broker.Broker
	due       []int // by the brokers
	from, to  []int // of the frames in the air
	bytes     [][]byte
	spoilt    []bool
	trace     []api.Mark
	connected map[int]bool
	cursor    map[int]int
}

func newTwin(topo api.Topo) *twin {
	n := topo.Brokers
	w := &twin{topo: topo, now: 1, disks: make([]*sector.Disk, n), lives: make([]int, n), brokers: make([]*broker.Broker, n), due: make([]int, n), connected: map[int]bool{}, cursor: map[int]int{}}
	for i := range n {
		w.disks[i], _ = sector.New(api.DiskSize)
		w.begin(i)
		w.due[i] = 6
	}
	return w
}

func (w *twin) begin(i int) {
	w.lives[i]++
	w.brokers[i], _ = broker.New(w.topo, i, w.disks[i], w.lives[i])
}

func (w *twin) mark(is api.Note, a, from, to int, e api.Event) {
	w.trace = append(w.trace, api.Mark{Is: is, A: a, From: from, To: to, Event: e})
}

func (w *twin) anew(i int, fates []int) {
	w.disks[i].Crash(fates)
	for id := 1; id <= len(w.topo.Subs); id++ {
		if w.topo.Subs[id-1].Broker == i && w.connected[id] {
			w.connected[id] = false
			w.mark(api.Closed, id, 0, 0, api.Event{})
		}
	}
	w.begin(i)
}

func (w *twin) do(a api.Act) api.Errno {
	if len(w.trace) >= api.MaxMarks {
		return api.ErrLimit
	}
	pubs, subs, air := len(w.topo.Pubs), len(w.topo.Subs), len(w.bytes)
	limits := map[api.Deed][3]int{ // which of A and N is held, from where, up to where
		api.Publish: {0, 0, pubs - 1}, api.Force: {0, 0, pubs - 1},
		api.Subscribe: {0, 1, subs}, api.Unsubscribe: {0, 1, subs}, api.Connect: {0, 1, subs}, api.Disconnect: {0, 1, subs}, api.Deliver: {0, 1, subs}, api.AckUp: {0, 1, subs},
		api.TickOne: {0, 0, w.topo.Brokers - 1}, api.Lift: {0, 0, w.topo.Brokers - 1}, api.Crash: {0, 0, w.topo.Brokers - 1}, api.Trip: {0, 0, w.topo.Brokers - 1},
		api.Land: {1, 0, air - 1}, api.Drop: {1, 0, air - 1}, api.Spoil: {1, 0, air - 1},
		api.Wait: {1, 0, min(1000, api.MaxTick-w.now)}, api.Calm: {1, 1, min(16, api.MaxTick-w.now)},
	}
	l, is := limits[a.Do]
	if !is {
		return api.ErrType
	}
	if x := []int{a.A, a.N}[l[0]]; x < l[1] || x > l[2] {
		return api.ErrArg
	}
	switch {
	case a.Do == api.Publish || a.Do == api.Force:
		return w.write(a)
	case a.Do <= api.AckUp:
		return w.read(a)
	case a.Do == api.Wait || a.Do == api.Calm:
		w.pass(a)
		return api.OK
	}
	return w.carry(a)
}

func (w *twin) write(a api.Act) api.Errno {
	i := w.topo.Pubs[a.A]
	up := !w.disks[i].Down()
	if a.Do == api.Force {
		fault := w.brokers[i].Force(a.A, a.N)
		if fault == api.OK || fault == api.ErrDown && up {
			w.mark(api.Released, a.A, a.N, 0, api.Event{})
		}
		return fault
	}
	tick, fault := w.brokers[i].Publish(a.A, a.Event, w.now)
	if fault == api.OK {
		w.mark(api.Told, a.A, tick, 0, a.Event)
	} else if fault == api.ErrDown && up {
		w.mark(api.Tried, a.A, 0, 0, a.Event)
	}
	return fault
}

func (w *twin) read(a api.Act) api.Errno {
	i := w.topo.Subs[a.A-1].Broker
	b, up := w.brokers[i], !w.disks[i].Down()
	var fault api.Errno
	switch a.Do {
	case api.Subscribe:
		if fault = b.Subscribe(a.A); fault == api.OK || fault == api.ErrDown && up {
			w.mark(api.Asked, a.A, 0, 0, api.Event{})
		}
	case api.Unsubscribe:
		if fault = b.Unsubscribe(a.A); fault == api.OK {
			w.connected[a.A] = false
			w.mark(api.Ended, a.A, 0, 0, api.Event{})
		}
	case api.Connect:
		var from int
		if from, fault = b.Connect(a.A); fault == api.OK {
			w.connected[a.A], w.cursor[a.A] = true, from
			w.mark(api.Began, a.A, from, 0, api.Event{})
		}
	case api.Disconnect:
		if fault = b.Disconnect(a.A); fault == api.OK {
			w.connected[a.A] = false
			w.mark(api.Closed, a.A, 0, 0, api.Event{})
		}
	case api.AckUp:
		t := w.cursor[a.A]
		if a.N > 0 {
			t -= a.N
		}
		if t < 0 {
			t = 0
		}
		if _, acked := b.State(a.A); t < acked {
			t = acked
		}
		if fault = b.Ack(a.A, t); fault == api.OK {
			w.mark(api.Acked, a.A, t, 0, api.Event{})
		} else if fault == api.ErrDown && up {
			w.mark(api.AckTried, a.A, t, 0, api.Event{})
		}
	case api.Deliver:
		return w.deliver(b, a.A, max(1, min(16, a.N)))
	}
	return fault
}

func (w *twin) deliver(b *broker.Broker, id, n int) api.Errno {
	for ; n > 0; n-- {
		step, fault := b.Deliver(id)
		if fault != api.OK {
			return fault
		}
		above := step.To > w.cursor[id]
		switch step.Is {
		case api.Data:
			e, _, _ := event.Take(step.Item.Body, 0)
			w.mark(api.Got, id, step.From, 0, e)
		case api.Lost:
			w.mark(api.Gap, id, step.From, step.To, api.Event{})
		case api.Unknown:
			if above {
				w.mark(api.Quiet, id, step.To, 0, api.Event{})
			}
			n = 0
		}
		if above {
			w.cursor[id] = step.To
		}
	}
	return api.OK
}

// near are the brokers to which one has lines, rising.
func (w *twin) near(i int) []int {
	var l []int
	for j := range w.topo.Brokers {
		if slices.Contains(w.topo.Lines, [2]int{min(i, j), max(i, j)}) {
			l = append(l, j)
		}
	}
	return l
}

func (w *twin) carry(a api.Act) api.Errno {
	switch a.Do {
	case api.TickOne:
		return w.brokers[a.A].Tick(w.now)
	case api.Crash:
		w.anew(a.A, a.Fates)
		return api.OK
	case api.Trip:
		return w.disks[a.A].Trip(a.N)
	case api.Lift:
		near := w.near(a.A)
		if a.B < 0 || a.B >= len(near) {
			return api.ErrArg
		}
		if len(w.bytes) == api.MaxAir {
			return api.ErrFull
		}
		b, is := w.brokers[a.A].Pull(near[a.B])
		if !is {
			return api.ErrGone
		}
		w.from, w.to, w.bytes, w.spoilt = append(w.from, a.A), append(w.to, near[a.B]), append(w.bytes, b), append(w.spoilt, false)
		return api.OK
	case api.Land:
		return w.brokers[w.to[a.N]].Take(w.from[a.N], w.bytes[a.N], w.now)
	case api.Drop:
		w.from, w.to = slices.Delete(w.from, a.N, a.N+1), slices.Delete(w.to, a.N, a.N+1)
		w.bytes, w.spoilt = slices.Delete(w.bytes, a.N, a.N+1), slices.Delete(w.spoilt, a.N, a.N+1)
		return api.OK
	}
	if w.spoilt[a.N] {
		return api.ErrKnown
	}
	if a.A < 0 || a.A >= len(w.bytes[a.N]) || a.B < 1 || a.B > 255 {
		return api.ErrArg
	}
	w.bytes[a.N][a.A] ^= byte(a.B)
	w.spoilt[a.N] = true
	return api.OK
}

// beat has all brokers that are due by now have their Tick.
func (w *twin) beat() {
	var l []int
	for i, at := range w.due {
		if at != 0 && at <= w.now {
			l = append(l, i)
		}
	}
	slices.SortStableFunc(l, func(i, j int) int { return cmp.Compare(w.due[i], w.due[j]) })
	for _, i := range l {
		w.brokers[i].Tick(w.now)
		if w.due[i] = w.now + 5; w.due[i] > api.MaxTick {
			w.due[i] = 0
		}
	}
}

func (w *twin) pass(a api.Act) {
	if a.Do == api.Wait {
		w.beat()
		for range a.N {
			w.now++
			w.beat()
		}
		return
	}
	w.from, w.to, w.bytes, w.spoilt = nil, nil, nil, nil
	for i, d := range w.disks {
		if d.Down() {
			w.anew(i, nil)
		}
	}
	for _, d := range w.disks {
		d.Trip(0)
	}
	for range a.N {
		w.now++
		for _, b := range w.brokers {
			b.Tick(w.now)
		}
		for some := true; some; {
			some = false
			for i, b := range w.brokers {
				for _, j := range w.near(i) {
					for f, is := b.Pull(j); is; f, is = b.Pull(j) {
						some = true
						w.brokers[j].Take(i, f, w.now)
					}
				}
			}
		}
	}
}

// holdTwin holds all that an overlay tells against its twin.
func (r *rig) holdTwin(w *twin) {
	r.t.Helper()
	r.wantNow(w.now)
	for id := -1; id <= len(w.topo.Subs)+1; id++ {
		on, acked := false, 0
		if id >= 1 && id <= len(w.topo.Subs) {
			on, acked = w.brokers[w.topo.Subs[id-1].Broker].State(id)
		}
		r.wantState(id, on, acked)
	}
	for pub := -1; pub <= len(w.topo.Pubs); pub++ {
		high, rel, used := 0, 0, 0
		if pub >= 0 && pub < len(w.topo.Pubs) {
			high, rel, used = w.brokers[w.topo.Pubs[pub]].Log(pub)
		}
		r.wantLog(pub, high, rel, used)
	}
	for n := -1; n <= len(w.bytes); n++ {
		from, to, b := r.o.Air(n)
		switch {
		case n < 0 || n == len(w.bytes):
			if from != -1 || to != -1 || len(b) != 0 {
				r.t.Fatalf("frame %d: %d %d %v, wanted none", n, from, to, b)
			}
		case from != w.from[n] || to != w.to[n] || !bytes.Equal(b, w.bytes[n]):
			r.t.Fatalf("frame %d: %d %d %v, wanted %d %d %v", n, from, to, b, w.from[n], w.to[n], w.bytes[n])
		}
	}
}

// P17.1, P17.2: whatever is done, and whatever is refused, the overlay tells what a second reading does.
func TestTwin(t *testing.T) {
	worlds := 120
	if testing.Short() {
		worlds = 25
	}
	seen := map[api.Deed]map[api.Errno]int{}
	notes := map[api.Note]int{}
	for seed := range worlds {
		d := dice(seed)
		topo := d.topo()
		r, w := newRig(t, topo), newTwin(topo)
		for i := range 600 {
			a := d.act(topo, i, len(w.bytes))
			want := w.do(a)
			if fault := r.o.Do(a); fault != want {
				t.Fatalf("seed %d, act %d, %v: error %d, wanted %d", seed, i, a, fault, want)
			}
			r.holdTwin(w)
			if seen[a.Do] == nil {
				seen[a.Do] = map[api.Errno]int{}
			}
			seen[a.Do][want]++
		}
		r.wantMarks(w.trace...)
		for _, m := range w.trace {
			notes[m.Is]++
		}
	}
	for deed := api.Publish; deed <= api.Calm; deed++ {
		if seen[deed][api.OK] == 0 || seen[deed][api.ErrArg] == 0 {
			t.Errorf("deed %d: %v, too few", deed, seen[deed])
		}
	}
	for note := api.Told; note <= api.Released; note++ {
		if notes[note] == 0 {
			t.Errorf("note %d did not come", note)
		}
	}
}
