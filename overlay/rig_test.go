package overlay_test

import (
	"slices"
	"testing"

	"grapevine/api"
	"grapevine/event"
	"grapevine/overlay"
	"grapevine/pred"
)

// terms are those of a text.
func terms(text string) []api.Term {
	l, _, fault := pred.Parse(text)
	if fault != api.OK {
		panic("no predicate: " + text)
	}
	return l
}

// sub is a subscription at a broker, of a publisher.
func sub(at, pub int, text string) api.Sub {
	return api.Sub{Broker: at, Pub: pub, Terms: terms(text)}
}

// inRow is brokers in a row, with a publisher at the first one.
func inRow(n int, subs ...api.Sub) api.Topo {
	t := api.Topo{Brokers: n, Pubs: []int{0}, Subs: subs, Schema: []api.Field{{Name: "a", Kind: api.Whole}}}
	for i := 1; i < n; i++ {
		t.Lines = append(t.Lines, [2]int{i - 1, i})
	}
	return t
}

// priced is an event with a = n.
func priced(n int64, content string) api.Event {
	return api.Event{Attrs: []api.Attr{{Name: "a", Value: api.Value{Kind: api.Whole, Whole: n}}}, Content: []byte(content)}
}

// Acts, in short.

func publish(pub int, e api.Event) api.Act { return api.Act{Do: api.Publish, A: pub, Event: e} }
func force(pub, n int) api.Act             { return api.Act{Do: api.Force, A: pub, N: n} }
func subscribe(id int) api.Act             { return api.Act{Do: api.Subscribe, A: id} }
func unsubscribe(id int) api.Act           { return api.Act{Do: api.Unsubscribe, A: id} }
func connect(id int) api.Act               { return api.Act{Do: api.Connect, A: id} }
func disconnect(id int) api.Act            { return api.Act{Do: api.Disconnect, A: id} }
func deliver(id, n int) api.Act            { return api.Act{Do: api.Deliver, A: id, N: n} }
func ackUp(id, n int) api.Act              { return api.Act{Do: api.AckUp, A: id, N: n} }
func tickOne(me int) api.Act               { return api.Act{Do: api.TickOne, A: me} }
func wait(n int) api.Act                   { return api.Act{Do: api.Wait, N: n} }
func calm(n int) api.Act                   { return api.Act{Do: api.Calm, N: n} }
func lift(me, b int) api.Act               { return api.Act{Do: api.Lift, A: me, B: b} }
func land(n int) api.Act                   { return api.Act{Do: api.Land, N: n} }
func drop(n int) api.Act                   { return api.Act{Do: api.Drop, N: n} }
func spoil(n, at, by int) api.Act          { return api.Act{Do: api.Spoil, N: n, A: at, B: by} }
func crash(me int, fates ...int) api.Act   { return api.Act{Do: api.Crash, A: me, Fates: fates} }
func trip(me, n int) api.Act               { return api.Act{Do: api.Trip, A: me, N: n} }

// rig is an overlay, and up to which mark its trace was looked at.
type rig struct {
	t    *testing.T
	o    *overlay.Overlay
	seen int
}

func newRig(t *testing.T, topo api.Topo) *rig {
	t.Helper()
	o, fault := overlay.New(topo)
	if fault != api.OK || o == nil {
		t.Fatalf("New: error %d", fault)
	}
	return &rig{t: t, o: o}
}

// do does acts, each of which is OK.
func (r *rig) do(acts ...api.Act) {
	r.t.Helper()
	r.refuse(api.OK, acts...)
}

// refuse does acts, each of which has this error.
func (r *rig) refuse(want api.Errno, acts ...api.Act) {
	r.t.Helper()
	for i, a := range acts {
		if fault := r.o.Do(a); fault != want {
			r.t.Fatalf("act %d, %v: error %d, wanted %d", i, a, fault, want)
		}
	}
}

// hasEvent: which marks have one.
func hasEvent(n api.Note) bool { return n == api.Told || n == api.Tried || n == api.Got }

// sameMark: are two marks alike, and without an event where they have none?
func sameMark(a, b api.Mark) bool {
	if a.Is != b.Is || a.A != b.A || a.From != b.From || a.To != b.To {
		return false
	}
	if !hasEvent(a.Is) {
		return len(a.Event.Attrs)+len(a.Event.Content)+len(b.Event.Attrs)+len(b.Event.Content) == 0
	}
	return event.Same(a.Event, b.Event)
}

// wantMarks holds the marks that came since the last time against those that are to.
func (r *rig) wantMarks(want ...api.Mark) {
	r.t.Helper()
	l := r.o.Trace()
	if got := l[r.seen:]; !slices.EqualFunc(got, want, sameMark) {
		r.t.Fatalf("marks %v, wanted %v", got, want)
	}
	r.seen = len(l)
}

// skipMarks passes over the marks that came.
func (r *rig) skipMarks() { r.seen = len(r.o.Trace()) }

func (r *rig) wantNow(want int) {
	r.t.Helper()
	if got := r.o.Now(); got != want {
		r.t.Fatalf("now is %d, wanted %d", got, want)
	}
}

func (r *rig) wantState(id int, on bool, acked int) {
	r.t.Helper()
	if is, at := r.o.State(id); is != on || at != acked {
		r.t.Fatalf("state of %d: %v %d, wanted %v %d", id, is, at, on, acked)
	}
}

func (r *rig) wantLog(pub, high, rel, used int) {
	r.t.Helper()
	if h, l, u := r.o.Log(pub); h != high || l != rel || u != used {
		r.t.Fatalf("log of %d: %d %d %d, wanted %d %d %d", pub, h, l, u, high, rel, used)
	}
}

// inAir is how many frames are in the air.
func (r *rig) inAir() int {
	n := 0
	for {
		if from, _, _ := r.o.Air(n); from < 0 {
			return n
		}
		n++
	}
}

func (r *rig) wantAir(want int) {
	r.t.Helper()
	if got := r.inAir(); got != want {
		r.t.Fatalf("%d frames are in the air, wanted %d", got, want)
	}
}

// Marks, in short.

func told(pub, tick int, e api.Event) api.Mark {
	return api.Mark{Is: api.Told, A: pub, From: tick, Event: e}
}
func tried(pub int, e api.Event) api.Mark { return api.Mark{Is: api.Tried, A: pub, Event: e} }
func released(pub, tick int) api.Mark     { return api.Mark{Is: api.Released, A: pub, From: tick} }
func asked(id int) api.Mark               { return api.Mark{Is: api.Asked, A: id} }
func ended(id int) api.Mark               { return api.Mark{Is: api.Ended, A: id} }
func began(id, tick int) api.Mark         { return api.Mark{Is: api.Began, A: id, From: tick} }
func closed(id int) api.Mark              { return api.Mark{Is: api.Closed, A: id} }
func got(id, tick int, e api.Event) api.Mark {
	return api.Mark{Is: api.Got, A: id, From: tick, Event: e}
}
func quiet(id, tick int) api.Mark    { return api.Mark{Is: api.Quiet, A: id, From: tick} }
func gap(id, from, to int) api.Mark  { return api.Mark{Is: api.Gap, A: id, From: from, To: to} }
func acked(id, tick int) api.Mark    { return api.Mark{Is: api.Acked, A: id, From: tick} }
func ackTried(id, tick int) api.Mark { return api.Mark{Is: api.AckTried, A: id, From: tick} }
