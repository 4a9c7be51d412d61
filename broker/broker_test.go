package broker_test

import (
	"bytes"
	"maps"
	"math"
	"slices"
	"testing"

	"grapevine/api"
	"grapevine/broker"
	"grapevine/evlog"
	"grapevine/link"
	"grapevine/sector"
)

// calls are all calls of a broker that have an error, as they are of a subscription 1 and a publisher 0 that are here.
func calls(b *broker.Broker) map[string]func() api.Errno {
	return map[string]func() api.Errno{
		"Publish": func() api.Errno {
			tick, fault := b.Publish(0, priced(1, "x"), 5)
			return beside(fault, tick == 0)
		},
		"Force":       func() api.Errno { return b.Force(0, 0) },
		"Subscribe":   func() api.Errno { return b.Subscribe(1) },
		"Unsubscribe": func() api.Errno { return b.Unsubscribe(1) },
		"Connect": func() api.Errno {
			at, fault := b.Connect(1)
			return beside(fault, at == 0)
		},
		"Disconnect": func() api.Errno { return b.Disconnect(1) },
		"Deliver": func() api.Errno {
			s, fault := b.Deliver(1)
			return beside(fault, s.Is == api.Unknown && s.To == 0 && s.From == 0 && s.Item.Body == nil)
		},
		"Ack":  func() api.Errno { return b.Ack(1, 0) },
		"Tick": func() api.Errno { return b.Tick(-1) },
		"Take": func() api.Errno { return b.Take(9, nil, -1) },
	}
}

// beside is an error beside which all else is zero, or one that there is not.
func beside(fault api.Errno, isZero bool) api.Errno {
	if fault != api.OK && !isZero {
		return -1
	}
	return fault
}

// wantShut: every call tells this error, and those that have none tell nothing.
func wantShut(t *testing.T, b *broker.Broker, want api.Errno) {
	t.Helper()
	for name, call := range calls(b) {
		wantErr(t, name, call(), want)
	}
	if on, acked := b.State(1); on || acked != 0 {
		t.Fatal("a state", on, acked)
	}
	if high, rel, used := b.Log(0); high != 0 || rel != 0 || used != 0 {
		t.Fatal("a log", high, rel, used)
	}
	for to := range 3 {
		if f, is := b.Pull(to); is || f != nil {
			t.Fatal("a frame", f)
		}
	}
}

// P1, P16.4
func TestNil(t *testing.T) { wantShut(t, nil, api.ErrNil) }

// P16.3
func TestNewErrors(t *testing.T) {
	o := inRow(2, sub(1, 0, "*"))
	wrong := o
	wrong.Pubs = []int{2}
	disk := func(n int) *sector.Disk {
		d, fault := sector.New(n)
		wantErr(t, "a disk", fault, api.OK)
		return d
	}
	down := disk(api.DiskSize)
	down.Trip(1)
	down.Sync()
	small := disk(api.DiskSize - 1)
	small.Trip(1)
	small.Sync()
	for i, at := range []struct {
		o        api.Topo
		me, life int
		d        *sector.Disk
		want     api.Errno
	}{
		{o, 0, 1, disk(api.DiskSize), api.OK},
		{o, 1, api.MaxNumber, disk(api.DiskSize), api.OK},
		{wrong, 9, 0, nil, api.ErrArg},
		{api.Topo{}, 0, 1, disk(api.DiskSize), api.ErrLimit},
		{o, 2, 1, nil, api.ErrArg},
		{o, -1, 1, disk(api.DiskSize), api.ErrArg},
		{o, math.MaxInt, 1, disk(api.DiskSize), api.ErrArg},
		{o, 0, 0, nil, api.ErrArg},
		{o, 0, -1, disk(api.DiskSize), api.ErrArg},
		{o, 0, api.MaxNumber + 1, disk(api.DiskSize), api.ErrArg},
		{o, 0, math.MaxInt, disk(api.DiskSize), api.ErrArg},
		{o, 0, 1, nil, api.ErrNil},
		{o, 0, 1, small, api.ErrArg},
		{o, 0, 1, disk(api.DiskSize + 1), api.ErrArg},
		{o, 0, 1, down, api.ErrDown},
	} {
		b, fault := broker.New(at.o, at.me, at.d, at.life)
		if fault != at.want || (b != nil) != (fault == api.OK) {
			t.Fatalf("%d: error %d, wanted %d", i, fault, at.want)
		}
	}
}

// P16.3: what evlog tells of a disk that trips while it is read.
func TestNewTrips(t *testing.T) {
	r := newRig(t, inRow(1), 0)
	r.publish(0, priced(1, "x"), 5, 5)
	// A record that was broken off is behind the last one: it is wiped.
	r.disk.Trip(2)
	_, fault := r.b.Publish(0, priced(1, "y"), 6)
	wantErr(t, "Publish", fault, api.ErrDown)
	r.disk.Crash([]int{2 + 3*63})
	for n := 1; n <= 2; n++ {
		d := r.disk.Fork()
		d.Trip(n)
		b, fault := broker.New(r.topo, 0, d, 2)
		if fault != api.ErrDown || b != nil {
			t.Fatalf("New that trips at %d: error %d", n, fault)
		}
	}
	r.disk.Trip(3)
	r.begin()
	r.wantLog(0, 5, 0, 1)
}

// P16.4: a broker is of no use once its disk is down, or has crashed.
func TestShut(t *testing.T) {
	r := newRig(t, inRow(2, sub(0, 0, "*")), 0)
	wantErr(t, "Subscribe", r.b.Subscribe(1), api.OK)
	r.tick(3)
	r.publish(0, priced(1, "x"), 5, 5)
	r.connect(1, 0)
	r.disk.Trip(1)
	wantErr(t, "Ack", r.b.Ack(1, 0), api.ErrDown)
	wantShut(t, r.b, api.ErrDown)
	old := r.b
	r.crash()
	r.wantState(1, true, 0)
	wantShut(t, old, api.ErrDown)
	old = r.b
	r.disk.Crash(nil)
	wantShut(t, old, api.ErrDown)
	// Down by somebody else's hand.
	r.begin()
	r.disk.Trip(1)
	r.disk.Sync()
	wantShut(t, r.b, api.ErrDown)
}

// P16.4
func TestGone(t *testing.T) {
	o := inRow(2, sub(0, 0, "*"), sub(1, 0, "*"))
	o.Pubs = []int{0, 1}
	r := newRig(t, o, 0)
	for _, id := range []int{0, -1, 2, 3, 32, math.MaxInt, math.MinInt} {
		wantErr(t, "Subscribe", r.b.Subscribe(id), api.ErrGone)
		wantErr(t, "Unsubscribe", r.b.Unsubscribe(id), api.ErrGone)
		_, fault := r.b.Connect(id)
		wantErr(t, "Connect", fault, api.ErrGone)
		wantErr(t, "Disconnect", r.b.Disconnect(id), api.ErrGone)
		_, fault = r.b.Deliver(id)
		wantErr(t, "Deliver", fault, api.ErrGone)
		wantErr(t, "Ack", r.b.Ack(id, -1), api.ErrGone)
		r.wantState(id, false, 0)
	}
	for _, pub := range []int{1, 2, -1, math.MaxInt, math.MinInt} {
		_, fault := r.b.Publish(pub, api.Event{}, -1)
		wantErr(t, "Publish", fault, api.ErrGone)
		wantErr(t, "Force", r.b.Force(pub, -1), api.ErrGone)
		r.wantLog(pub, 0, 0, 0)
	}
	for _, other := range []int{0, 2, -1, math.MaxInt, math.MinInt} {
		wantErr(t, "Take", r.b.Take(other, nil, -1), api.ErrGone)
		if _, is := r.b.Pull(other); is {
			t.Fatal("a frame to", other)
		}
	}
}

// P16.5: what may not be published, the first error first; and nothing comes of it.
func TestPublishErrors(t *testing.T) {
	r := newRig(t, inRow(2, sub(1, 0, "*")), 0)
	odd := api.Event{Attrs: []api.Attr{{Name: "b", Value: api.Value{Kind: api.Whole}}}}
	words := api.Event{Attrs: []api.Attr{{Name: "a", Value: api.Value{Kind: api.Words}}}}
	for _, now := range []int{-1, top + 1, math.MaxInt, math.MinInt} {
		_, fault := r.b.Publish(0, odd, now)
		wantErr(t, "Publish", fault, api.ErrArg)
	}
	for _, at := range []struct {
		e    api.Event
		want api.Errno
	}{
		{odd, api.ErrGone},
		{words, api.ErrType},
		{api.Event{Attrs: []api.Attr{{Name: "A"}}}, api.ErrName},
		{api.Event{Attrs: []api.Attr{{Name: "a"}}}, api.ErrType},
		{api.Event{Content: make([]byte, api.MaxContent+1)}, api.ErrLimit},
		{api.Event{Attrs: append(priced(1, "").Attrs, priced(1, "").Attrs...)}, api.ErrForm},
	} {
		tick, fault := r.b.Publish(0, at.e, 5)
		if wantErr(t, "Publish", fault, at.want); tick != 0 {
			t.Fatal("a tick beside an error", tick)
		}
	}
	r.wantLog(0, 0, 0, 0)
	r.wantHeard(1)
}

// wide is a schema whose events may have more bytes than a record.
func wide() []api.Field {
	return []api.Field{{Name: "a", Kind: api.Words}, {Name: "b", Kind: api.Words}}
}

// P16.5: as many bytes as a record may have, and one more.
func TestPublishLong(t *testing.T) {
	o := inRow(1, sub(0, 0, "*"))
	o.Schema = wide()
	r := newRig(t, o, 0)
	wantErr(t, "Subscribe", r.b.Subscribe(1), api.OK)
	r.tick(1)
	r.connect(1, 0)
	long := func(n int) api.Event {
		e := api.Event{Attrs: []api.Attr{{Name: "a", Value: api.Value{Kind: api.Words, Words: string(make([]byte, 200))}}}}
		e.Content = make([]byte, n-len(bodyOf(e))-1)
		return e
	}
	e := long(api.MaxRec)
	if n := len(bodyOf(e)); n != api.MaxRec {
		t.Fatal(n, "bytes")
	}
	_, fault := r.b.Publish(0, long(api.MaxRec+1), 5)
	wantErr(t, "Publish", fault, api.ErrLimit)
	r.publish(0, e, 5, 5)
	r.wantItem(1, 5, 1, e)
}

// P16.5: which tick an event has, and that it is in the log.
func TestPublishTick(t *testing.T) {
	r := newRig(t, inRow(1), 0)
	r.publish(0, priced(1, "a"), 0, 1)
	r.publish(0, priced(1, "b"), 0, 2)
	r.publish(0, priced(1, "c"), 7, 7)
	r.publish(0, priced(1, "d"), 7, 8)
	r.publish(0, priced(1, "e"), 3, 9)
	// All up to now less 1 is promised.
	r.tick(20)
	r.publish(0, priced(1, "f"), 15, 20)
	r.publish(0, priced(1, "g"), 30, 30)
	r.tick(25)
	r.publish(0, priced(1, "h"), 1, 31)
	// No subscription is on: what was ahead of the last tick is released.
	r.wantLog(0, 31, 30, 1)
	recs := r.records(0)
	if len(recs) != 1 || recs[0].Tick != 31 || !bytes.Equal(recs[0].Body, bodyOf(priced(1, "h"))) {
		t.Fatal("records", recs)
	}
	r.crash()
	// The promise is the high tick again.
	r.tick(31)
	r.publish(0, priced(1, "i"), 0, 32)
}

// P16.5: no tick is left behind the last one.
func TestPublishLastTick(t *testing.T) {
	r := newRig(t, inRow(2, sub(1, 0, "*")), 0)
	r.tick(top)
	r.wantHeard(1, told(0, 1, top-1, quiet(1, top-1)), told(0, top-1, top-1, quiet(top-1, top-1)))
	r.publish(0, priced(1, "a"), 0, top)
	tick, fault := r.b.Publish(0, priced(1, "b"), top)
	if wantErr(t, "Publish", fault, api.ErrTick); tick != 0 {
		t.Fatal("a tick", tick)
	}
	r.tick(top)
	r.wantLog(0, top, top, 1)
}

// P16.5: where the log is full nothing is told, and there is room again once all have acked.
func TestPublishFull(t *testing.T) {
	r := newRig(t, inRow(1, sub(0, 0, "*")), 0)
	wantErr(t, "Subscribe", r.b.Subscribe(1), api.OK)
	r.tick(1)
	r.connect(1, 0)
	n := 0
	for {
		tick, fault := r.b.Publish(0, priced(1, "x"), 0)
		if fault == api.ErrFull {
			break
		}
		if n++; fault != api.OK || tick != n {
			t.Fatal("Publish", tick, fault)
		}
	}
	if n != api.LogSegs*(api.SegSectors-1) {
		t.Fatal("room for", n)
	}
	for i := 1; i <= n; i++ {
		r.wantItem(1, i, 1, priced(1, "x"))
	}
	r.wantNothing(1, n)
	wantErr(t, "Ack", r.b.Ack(1, n), api.OK)
	r.tick(2)
	r.wantLog(0, n, n, 1)
	r.publish(0, priced(1, "y"), 0, n+1)
	r.wantItem(1, n+1, 1, priced(1, "y"))
}

// P16.5: what is released by force is lost to those who do not know it yet.
func TestForce(t *testing.T) {
	r := newRig(t, inRow(2, sub(0, 0, "*"), sub(1, 0, "*")), 0)
	wantErr(t, "Subscribe", r.b.Subscribe(1), api.OK)
	r.say(1, says(api.Join, 0, 2, 1, 0))
	r.tick(1)
	for i := 2; i <= 9; i++ {
		r.publish(0, priced(int64(i), "x"), i, i)
	}
	for _, bad := range []int{-1, 10, top, math.MaxInt, math.MinInt} {
		wantErr(t, "Force", r.b.Force(0, bad), api.ErrArg)
	}
	wantErr(t, "Force", r.b.Force(0, 0), api.OK)
	r.wantLog(0, 9, 0, 1)
	wantErr(t, "Force", r.b.Force(0, 6), api.OK)
	wantErr(t, "Force", r.b.Force(0, 4), api.OK)
	r.wantLog(0, 9, 6, 1)
	r.heard(1)
	r.say(1, wants(0, 5, 7))
	r.wantHeard(1, told(0, 5, 7, lost(5, 6), item(7, 3, priced(7, "x"))))
	// The stream here has had them already; behind a crash it has not.
	r.connect(1, 0)
	r.wantItem(1, 2, 3, priced(2, "x"))
	r.crash()
	r.wantLog(0, 9, 6, 1)
	r.connect(1, 0)
	r.wantStep(1, api.Step{Is: api.Lost, From: 1, To: 6})
	r.wantItem(1, 7, 3, priced(7, "x"))
	wantErr(t, "Ack", r.b.Ack(1, 7), api.OK)
}

// P16.5, P16.9: a disk that trips in the midst of a call leaves what was, or what was to be.
func TestForceTrips(t *testing.T) {
	for n := 1; n <= 2; n++ {
		for fate := range 3 {
			r := newRig(t, inRow(1), 0)
			r.publish(0, priced(1, "x"), 5, 5)
			r.disk.Trip(n)
			wantErr(t, "Force", r.b.Force(0, 4), api.ErrDown)
			r.crash(fate, fate, fate)
			if high, rel, _ := r.b.Log(0); high != 5 || rel != 0 && rel != 4 {
				t.Fatal("a log", high, rel)
			}
		}
	}
}

// P16.3: three publishers, each in a place of its own on the disk.
func TestDiskPlaces(t *testing.T) {
	o := inRow(1, sub(0, 0, "*"), sub(0, 1, "*"), sub(0, 2, "a>3"))
	o.Pubs = []int{0, 0, 0}
	r := newRig(t, o, 0)
	for pub := range 3 {
		wantErr(t, "Subscribe", r.b.Subscribe(pub+1), api.OK)
	}
	r.tick(1)
	for pub := range 3 {
		r.publish(pub, priced(int64(pub), "x"), 5+pub, 5+pub)
	}
	for pub := range 3 {
		recs := r.records(pub)
		if len(recs) != 1 || recs[0].Tick != 5+pub || !bytes.Equal(recs[0].Body, bodyOf(priced(int64(pub), "x"))) {
			t.Fatal("records", recs)
		}
		r.wantLog(pub, 5+pub, 0, 1)
		base := 32 + 98*pub
		for id := 1; id <= 8; id++ {
			state, acked := r.cell(base, id-1), r.cell(base, 7+id)
			if id == pub+1 && (state != 3 || acked != 0) || id != pub+1 && (state != -1 || acked != -1) {
				t.Fatal("cells", pub, id, state, acked)
			}
		}
		if state, acked := r.cell(0, pub), r.cell(0, 8+pub); state != 6 || acked != 0 {
			t.Fatal("cells of a subscription", state, acked)
		}
	}
	r.crash()
	r.connect(2, 0)
	r.wantItem(2, 6, 2, priced(1, "x"))
	r.connect(3, 0)
	r.wantNothing(3, 7)
}

// P16.3: what a disk has is there, whoever wrote it.
func TestNewReads(t *testing.T) {
	r := newRig(t, inRow(1, sub(0, 0, "*"), sub(0, 0, "*"), sub(0, 0, "*"), sub(0, 0, "*")), 0)
	for id, state := range []int{4*7 + 2, 4*8 + 1, 4 * 9, 4*5 + 3} {
		r.setCell(0, id, state)
		r.setCell(0, 8+id, 11+id)
	}
	r.setCell(32, 0, 2*7+1)
	r.setCell(32, 8, 11)
	r.crash()
	r.wantState(1, true, 11)
	r.wantState(2, false, 0)
	r.wantState(3, false, 0)
	r.wantState(4, false, 0)
	wantErr(t, "Subscribe", r.b.Subscribe(1), api.ErrKnown)
	wantErr(t, "Subscribe", r.b.Subscribe(2), api.ErrKnown)
	wantErr(t, "Unsubscribe", r.b.Unsubscribe(3), api.ErrGone)
	// A state of 3 is off, and the number goes on.
	wantErr(t, "Unsubscribe", r.b.Unsubscribe(4), api.ErrGone)
	wantErr(t, "Subscribe", r.b.Subscribe(4), api.OK)
	if got := r.cell(0, 3); got != 4*6+1 {
		t.Fatal("a cell", got)
	}
	r.connect(1, 11)
}

// P16.3: a record that is no event is for nobody.
func TestStrangeRecord(t *testing.T) {
	r := newRig(t, inRow(1, sub(0, 0, "*")), 0)
	wantErr(t, "Subscribe", r.b.Subscribe(1), api.OK)
	r.tick(1)
	l, fault := evlog.Open(r.disk, 64, api.LogSegs)
	wantErr(t, "a log", fault, api.OK)
	wantErr(t, "Append", l.Append(5, []byte{0xff}), api.OK)
	wantErr(t, "Append", l.Append(6, bodyOf(priced(1, "x"))), api.OK)
	wantErr(t, "Sync", l.Sync(), api.OK)
	r.crash()
	r.connect(1, 0)
	r.wantItem(1, 6, 1, priced(1, "x"))
}

// P1: no call panics, whatever the disk has; and what is below the limits is read.
func TestAnyDisk(t *testing.T) {
	o := inRow(2, sub(0, 0, "*"), sub(0, 1, "a>3"), sub(1, 0, "*"))
	o.Pubs = []int{0, 0}
	for seed := range 200 {
		d := dice(seed)
		r := newRig(t, o, 0)
		for range 30 {
			values := []int{0, 1, 2, 3, d.roll(1 << 30), 4*api.MaxNumber + d.roll(4), top - d.roll(4)}
			r.setCell([]int{0, 32, 130}[d.roll(3)], d.roll(16), values[d.roll(len(values))])
		}
		for range d.roll(4) {
			r.disk.Write(64+d.roll(262), bytes.Repeat([]byte{byte(d.roll(256))}, d.roll(65)))
		}
		wantErr(t, "Sync", r.disk.Sync(), api.OK)
		r.crash()
		for range 40 {
			call := calls(r.b)
			names := slices.Sorted(maps.Keys(call))
			call[names[d.roll(len(names))]]()
			r.b.Tick(d.roll(50))
			r.b.Connect(2)
			r.b.Deliver(2)
			r.b.Publish(1, priced(int64(d.roll(9)), "x"), d.roll(50))
			r.trySay(1, says(api.Mail(3+d.roll(4)), d.roll(2), 1+d.roll(3), 1+d.roll(api.MaxNumber), d.roll(50)))
			r.heard(1)
		}
	}
}

// P3: the overlay that a broker is made of is its own.
func TestTopoIsKept(t *testing.T) {
	o := inRow(2, sub(0, 0, "a>3"), sub(1, 0, "*"))
	r := newRig(t, o, 0)
	wantErr(t, "Subscribe", r.b.Subscribe(1), api.OK)
	r.tick(1)
	o.Subs[0].Terms[0] = api.Term{Op: api.No}
	o.Subs[0].Broker, o.Pubs[0], o.Schema[0].Kind, o.Lines[0] = 1, 1, api.Point, [2]int{5, 6}
	r.connect(1, 0)
	e := priced(4, "abc")
	r.publish(0, e, 5, 5)
	e.Content[0], e.Attrs[0].Value.Whole = 'x', 0
	r.wantItem(1, 5, 1, priced(4, "abc"))
	r.tick(9)
	if l, probes := r.heard(1); len(l) == 0 || probes == 0 {
		t.Fatal("nothing to the neighbour", l, probes)
	}
}

// P3: what Deliver answers is not kept.
func TestStepIsNew(t *testing.T) {
	r := newRig(t, inRow(1, sub(0, 0, "*")), 0)
	wantErr(t, "Subscribe", r.b.Subscribe(1), api.OK)
	r.tick(1)
	r.publish(0, priced(4, "abc"), 5, 5)
	r.connect(1, 0)
	s, _ := r.b.Deliver(1)
	clear(s.Item.Body)
	r.connect(1, 0)
	r.wantItem(1, 5, 1, priced(4, "abc"))
}

// P16.4, P16.9: frames are those of the broker's life.
func TestPull(t *testing.T) {
	r := newRig(t, inRow(3), 1)
	r.tick(1)
	for _, other := range []int{0, 2} {
		if l, probes := r.heard(other); len(l) != 0 || probes != 1 {
			t.Fatal("to", other, l, probes)
		}
		if _, life := r.peers[other].Lives(); life != 1 {
			t.Fatal("a life", life)
		}
	}
	r.crash()
	r.tick(1)
	fresh, _ := link.New(1, 1)
	f, is := r.b.Pull(2)
	if !is {
		t.Fatal("no frame")
	}
	if _, _, fault := fresh.Take(f, 1); fault != api.OK {
		t.Fatal("a frame", fault)
	}
	if _, life := fresh.Lives(); life != 2 {
		t.Fatal("a life", life)
	}
}
