package broker_test

import (
	"slices"
	"testing"

	"grapevine/api"
	"grapevine/broker"
	"grapevine/event"
	"grapevine/evlog"
	"grapevine/octet"
	"grapevine/parcel"
	"grapevine/pred"
	"grapevine/seal"
	"grapevine/sector"
	"grapevine/stream"
)

// Contents that are no parcels.
const (
	ofProbe  api.Mail = -2
	ofAnswer api.Mail = -3
)

// reads is a subscription at its own broker, as the document says it.
type reads struct {
	number, state, acked int
	connected            bool
	cursor, handed       int
}

// member is a subscription at its publisher's broker.
type member struct {
	number, acked int
	on            bool
}

// writes is a publisher at its own broker.
type writes struct {
	disk    *sector.Disk
	log     *evlog.Log
	promise int
	members map[int]*member
}

func (h *writes) greater() int { return max(h.promise, h.log.High()) }

// twin is a broker once more, tick by tick, as the document says it; it has nothing on a disk but its logs.
type twin struct {
	topo    api.Topo
	me      int
	streams []*stream.Stream
	homes   map[int]*writes
	subs    map[int]*reads
	waits   map[int][]api.Parcel
}

func newTwin(topo api.Topo, me int) *twin {
	w := &twin{topo: topo, me: me, homes: map[int]*writes{}, subs: map[int]*reads{}}
	for i, s := range topo.Subs {
		if s.Broker == me {
			w.subs[i+1] = &reads{}
		}
	}
	for pub, at := range topo.Pubs {
		if at == me {
			d, _ := sector.New(2 + api.LogSegs*api.SegSectors)
			w.homes[pub] = &writes{disk: d, members: map[int]*member{}}
			for i, s := range topo.Subs {
				if s.Pub == pub {
					w.homes[pub].members[i+1] = &member{}
				}
			}
		}
	}
	w.begin()
	return w
}

// begin is a new life: what is on the disk stays.
func (w *twin) begin() {
	w.waits = map[int][]api.Parcel{}
	w.streams = nil
	for range w.topo.Pubs {
		w.streams = append(w.streams, stream.New())
	}
	for _, s := range w.subs {
		s.connected, s.cursor, s.handed = false, 0, 0
	}
	for pub, h := range w.homes {
		h.disk.Crash(nil)
		h.log, _ = evlog.Open(h.disk, 0, api.LogSegs)
		h.promise = h.log.High()
		w.learnHere(pub, 1, h.log.High())
	}
}

// knows is what the publisher's broker knows of a range, each tick told for itself.
func (w *twin) knows(pub, from, to int) *stream.Stream {
	s, h := stream.New(), w.homes[pub]
	for t := from; t <= to && t <= h.greater(); t++ {
		p := told(pub, t, t, quiet(t, t))
		if t <= h.log.Rel() {
			p = told(pub, t, t, lost(t, t))
		} else if l := h.log.Events(t, t); len(l) > 0 {
			i := api.Item{Tick: t, Body: l[0].Body}
			e, _, _ := event.Take(l[0].Body, 0)
			for id, m := range h.members {
				if is, _ := pred.Eval(w.topo.Subs[id-1].Terms, e); is && m.on {
					i.For |= 1 << (id - 1)
				}
			}
			p = told(pub, t, t, nil, i)
		}
		s.Learn(p)
	}
	return s
}

func (w *twin) tells(pub, from, to int, links uint32) []api.Parcel {
	s := w.streams[pub]
	if w.homes[pub] != nil {
		s = w.knows(pub, from, to)
	}
	l, _ := s.Tell(pub, from, to, links)
	return l
}

func (w *twin) learnHere(pub, from, to int) {
	var own uint32
	for id := range w.subs {
		if w.topo.Subs[id-1].Pub == pub {
			own |= 1 << (id - 1)
		}
	}
	for _, p := range w.tells(pub, from, to, own) {
		w.streams[pub].Learn(p)
	}
}

func (w *twin) handOn(pub, from, to int) {
	if w.homes[pub] != nil {
		w.learnHere(pub, from, to)
	}
	for _, other := range broker.Down(w.topo, pub, w.me) {
		for _, p := range w.tells(pub, from, to, broker.Reach(w.topo, pub, other)) {
			w.wait(other, p)
		}
	}
}

func (w *twin) wait(other int, p api.Parcel) {
	if len(w.waits[other]) < api.MaxQueue {
		w.waits[other] = append(w.waits[other], p)
	}
}

func (w *twin) up(p api.Parcel) {
	for _, other := range broker.Up(w.topo, p.Pub, w.me) {
		w.wait(other, p)
	}
}

func (w *twin) publish(pub int, e api.Event, now int) (int, api.Errno) {
	h := w.homes[pub]
	if h == nil {
		return 0, api.ErrGone
	}
	old := h.greater()
	tick := max(old+1, now)
	if fault := h.log.Append(tick, bodyOf(e)); fault != api.OK {
		return 0, fault
	}
	h.log.Sync()
	w.handOn(pub, old+1, tick)
	return tick, api.OK
}

func (w *twin) force(pub, t int) api.Errno {
	if w.homes[pub] == nil {
		return api.ErrGone
	}
	return w.homes[pub].log.Chop(t)
}

func (w *twin) subscribe(id int) api.Errno {
	s := w.subs[id]
	switch {
	case s == nil:
		return api.ErrGone
	case s.state != 0:
		return api.ErrKnown
	}
	s.number, s.state = s.number+1, 1
	return api.OK
}

func (w *twin) unsubscribe(id int) api.Errno {
	s := w.subs[id]
	if s == nil || s.state == 0 {
		return api.ErrGone
	}
	s.state, s.connected = 0, false
	return api.OK
}

func (w *twin) connect(id int) (int, api.Errno) {
	s := w.subs[id]
	switch {
	case s == nil:
		return 0, api.ErrGone
	case s.state != 2:
		return 0, api.ErrBusy
	}
	s.connected, s.cursor = true, s.acked
	return s.acked, api.OK
}

func (w *twin) disconnect(id int) api.Errno {
	s := w.subs[id]
	switch {
	case s == nil:
		return api.ErrGone
	case !s.connected:
		return api.ErrBusy
	}
	s.connected = false
	return api.OK
}

func (w *twin) deliver(id int) (api.Step, api.Errno) {
	s := w.subs[id]
	switch {
	case s == nil:
		return api.Step{}, api.ErrGone
	case !s.connected:
		return api.Step{}, api.ErrBusy
	}
	step, fault := w.streams[w.topo.Subs[id-1].Pub].Next(s.cursor, id)
	s.cursor = max(s.cursor, step.To)
	if step.Is == api.Data {
		s.handed = step.Item.Tick
	}
	return step, fault
}

func (w *twin) ack(id, t int) api.Errno {
	s := w.subs[id]
	switch {
	case s == nil:
		return api.ErrGone
	case !s.connected:
		return api.ErrBusy
	case t < s.acked || t > s.cursor:
		return api.ErrArg
	}
	s.acked = t
	return api.OK
}

func (w *twin) tick(now int) {
	for id := 1; id <= len(w.topo.Subs); id++ {
		s := w.subs[id]
		if s == nil {
			continue
		}
		if s.connected && s.acked >= s.handed {
			s.acked = s.cursor
		}
		if s.number > 0 {
			p := says([]api.Mail{api.Leave, api.Join, api.Ack}[s.state], w.topo.Subs[id-1].Pub, id, s.number, 0)
			if s.state == 2 {
				p.From = s.acked
			}
			w.said(p)
		}
	}
	for pub := range w.topo.Pubs {
		if h := w.homes[pub]; h != nil {
			if old := h.greater(); now-1 > old {
				h.promise = now - 1
				w.handOn(pub, old+1, now-1)
			}
			t := h.log.High()
			for _, m := range h.members {
				if m.on {
					t = min(t, m.acked)
				}
			}
			h.log.Chop(t)
		}
	}
	for pub := range w.topo.Pubs {
		last, least := 0, top+1
		if m := w.streams[pub].Map(); len(m) > 0 {
			last = m[len(m)-1].To
			w.handOn(pub, last, last)
		}
		for id, s := range w.subs {
			if w.topo.Subs[id-1].Pub == pub && s.state == 2 {
				least = min(least, s.acked)
			}
		}
		if first, to := w.unknown(pub, least+1, max(last, now-1)); first > 0 {
			if w.homes[pub] != nil {
				w.learnHere(pub, first, to)
			} else {
				w.up(wants(pub, first, to))
			}
		}
	}
	for other := range w.topo.Brokers {
		if slices.Contains(w.topo.Lines, [2]int{w.me, other}) || slices.Contains(w.topo.Lines, [2]int{other, w.me}) {
			w.wait(other, api.Parcel{Kind: ofProbe})
		}
	}
}

// unknown is the first and the last tick of a range of which the stream knows nothing; 0, if there is none.
func (w *twin) unknown(pub, from, to int) (int, int) {
	first, last := 0, 0
	known := w.streams[pub].Map()
	for t := from; t <= to; t++ {
		if !slices.ContainsFunc(known, func(s api.Span) bool { return s.From <= t && t <= s.To }) {
			if last = t; first == 0 {
				first = t
			}
		}
	}
	return first, last
}

// said is what a subscription says: it is done, or sent up.
func (w *twin) said(p api.Parcel) {
	h := w.homes[p.Pub]
	if h == nil {
		w.up(p)
		return
	}
	m := h.members[p.Sub]
	switch p.Kind {
	case api.Join:
		if p.N > m.number {
			m.number, m.on, m.acked = p.N, true, h.greater()
		} else if p.N < m.number || !m.on {
			return
		}
		w.grant(says(api.Grant, p.Pub, p.Sub, p.N, m.acked))
	case api.Ack:
		if p.N == m.number && m.on {
			m.acked = max(m.acked, p.From)
		}
	case api.Leave:
		if p.N >= m.number {
			m.number, m.on = p.N, false
		}
	}
}

func (w *twin) grant(p api.Parcel) {
	if s := w.subs[p.Sub]; s != nil && s.state == 1 && s.number == p.N {
		s.state, s.acked = 2, p.From
		return
	}
	for _, other := range broker.Down(w.topo, p.Pub, w.me) {
		if broker.Reach(w.topo, p.Pub, other)>>(p.Sub-1)&1 == 1 {
			w.wait(other, p)
		}
	}
}

func (w *twin) take(from int, p api.Parcel) {
	if p.Kind == ofProbe {
		w.wait(from, api.Parcel{Kind: ofAnswer})
	}
	if p.Kind < 0 || p.Pub >= len(w.topo.Pubs) {
		return
	}
	isUp := slices.Contains(broker.Up(w.topo, p.Pub, w.me), from)
	isDown := slices.Contains(broker.Down(w.topo, p.Pub, w.me), from)
	isSub := p.Sub >= 1 && p.Sub <= len(w.topo.Subs) && w.topo.Subs[p.Sub-1].Pub == p.Pub
	switch {
	case p.Kind == api.Tell && isUp:
		if news, _ := w.streams[p.Pub].Learn(p); news {
			w.handOn(p.Pub, p.From, p.To)
		}
	case p.Kind == api.Want && isDown:
		for _, tell := range w.tells(p.Pub, p.From, p.To, broker.Reach(w.topo, p.Pub, from)) {
			w.wait(from, tell)
		}
		if first, last := w.unknown(p.Pub, p.From, p.To); first > 0 && w.homes[p.Pub] == nil {
			w.up(wants(p.Pub, first, last))
		}
	case p.Kind == api.Grant && isUp && isSub:
		w.grant(p)
	case (p.Kind == api.Join || p.Kind == api.Ack || p.Kind == api.Leave) && isDown && isSub:
		w.said(p)
	}
}

// inside is what a frame has, without its numbers.
func inside(t *testing.T, frame []byte) api.Parcel {
	t.Helper()
	s, _, fault := seal.Open(frame, 0)
	wantErr(t, "a seal", fault, api.OK)
	if s.Kind != 1 {
		return api.Parcel{Kind: -api.Mail(s.Kind)}
	}
	at := 0
	for range 3 {
		if _, at, fault = octet.TakeUint(s.Body, at); fault != api.OK {
			t.Fatal("a frame", frame)
		}
	}
	p, fault := parcel.Take(s.Body[at:])
	wantErr(t, "a parcel", fault, api.OK)
	return p
}

// pair is a broker and its twin.
type pair struct {
	*rig
	w   *twin
	now int
}

// hold holds all that the broker tells against its twin, and pulls some of its frames.
func (x *pair) hold(pull int) {
	x.t.Helper()
	for id := 0; id <= len(x.topo.Subs)+1; id++ {
		if s := x.w.subs[id]; s != nil && s.state == 2 {
			x.wantState(id, true, s.acked)
		} else {
			x.wantState(id, false, 0)
		}
	}
	for pub := range x.topo.Pubs {
		if h := x.w.homes[pub]; h != nil {
			x.wantLog(pub, h.log.High(), h.log.Rel(), h.log.Used())
		} else {
			x.wantLog(pub, 0, 0, 0)
		}
	}
	for other := range x.topo.Brokers {
		for range pull {
			f, is := x.b.Pull(other)
			if is != (len(x.w.waits[other]) > 0) {
				x.t.Fatalf("to %d: a frame %v, there wait %v", other, is, x.w.waits[other])
			}
			if !is {
				break
			}
			if got, want := inside(x.t, f), x.w.waits[other][0]; !sameParcel(got, want) {
				x.t.Fatalf("to %d: %v, wanted %v", other, got, want)
			}
			x.w.waits[other] = x.w.waits[other][1:]
		}
	}
}

// parcel is one that a neighbour may send, of ticks near now.
func (d *dice) parcel(x *pair) api.Parcel {
	p := api.Parcel{Kind: api.Mail(1 + d.roll(6)), Pub: d.roll(len(x.topo.Pubs)), Sub: 1 + d.roll(len(x.topo.Subs)+1), N: 1 + d.roll(3)}
	p.From = max(1, x.now-d.roll(20))
	p.To = p.From + d.roll(15)
	if d.roll(40) == 0 {
		p.Pub = d.roll(api.MaxPubs)
	}
	if p.Kind != api.Tell {
		return parcel.Plain(p)
	}
	t := p.From
	for t <= p.To {
		to := min(p.To, t+d.roll(4))
		switch d.roll(4) {
		case 0:
			p.Spans = append(p.Spans, api.Span{From: t, To: to, Is: api.Silence + api.Know(d.roll(8)/7)})
			to++
		case 1:
			if len(p.Items) < api.MaxItems {
				p.Items = append(p.Items, api.Item{Tick: t, For: uint32(d.roll(256)), Body: bodyOf(priced(int64(t), "x"))})
				to = t
			}
		}
		t = to + 1
	}
	return parcel.Plain(p)
}

// publishes does a thing that publishers, or time, may do.
func (x *pair) publishes(d *dice) {
	x.t.Helper()
	pub := d.roll(len(x.topo.Pubs) + 1)
	switch y := d.roll(20); {
	case y < 9:
		e := priced(int64(d.roll(9)), "x")
		tick, fault := x.b.Publish(pub, e, x.now)
		want, wantFault := x.w.publish(pub, e, x.now)
		if wantErr(x.t, "Publish", fault, wantFault); tick != want {
			x.t.Fatalf("a tick %d, wanted %d", tick, want)
		}
	case y < 10:
		high, _, _ := x.b.Log(pub)
		t := d.roll(high + 2)
		wantErr(x.t, "Force", x.b.Force(pub, t), x.w.force(pub, t))
	case y < 15:
		x.now += d.roll(4)
	case y < 16:
		x.crash()
		x.w.begin()
	default:
		x.tick(x.now)
		x.w.tick(x.now)
	}
}

// reads does a thing that a subscription may do.
func (x *pair) reads(d *dice) {
	x.t.Helper()
	id := 1 + d.roll(len(x.topo.Subs)+1)
	switch y := d.roll(20); {
	case y < 3:
		wantErr(x.t, "Subscribe", x.b.Subscribe(id), x.w.subscribe(id))
	case y < 4:
		wantErr(x.t, "Unsubscribe", x.b.Unsubscribe(id), x.w.unsubscribe(id))
	case y < 8:
		at, fault := x.b.Connect(id)
		want, wantFault := x.w.connect(id)
		if wantErr(x.t, "Connect", fault, wantFault); at != want {
			x.t.Fatalf("connected at %d, wanted %d", at, want)
		}
	case y < 9:
		wantErr(x.t, "Disconnect", x.b.Disconnect(id), x.w.disconnect(id))
	case y < 16:
		got, fault := x.b.Deliver(id)
		want, wantFault := x.w.deliver(id)
		if wantErr(x.t, "Deliver", fault, wantFault); got.Is != want.Is || got.From != want.From || got.To != want.To || !sameItem(got.Item, want.Item) {
			x.t.Fatalf("handed %v, wanted %v", got, want)
		}
	default:
		t := d.roll(x.now + 10)
		if s := x.w.subs[id]; s != nil && d.roll(3) > 0 {
			t = s.cursor - d.roll(2)
		}
		wantErr(x.t, "Ack", x.b.Ack(id, t), x.w.ack(id, t))
	}
}

// P16.3 to P16.9, by a second reading: of all that is told, and of all frames.
func TestTwin(t *testing.T) {
	worlds := 300
	if testing.Short() {
		worlds = 40
	}
	for seed := range worlds {
		d := dice(seed)
		topo := d.topo()
		me := d.roll(topo.Brokers)
		x := &pair{newRig(t, topo, me), newTwin(topo, me), 1}
		for range 300 {
			switch y := d.roll(10); {
			case y < 3:
				x.publishes(&d)
			case y < 6:
				x.reads(&d)
			default:
				from := d.roll(topo.Brokers)
				if broker.Far(api.Topo{Brokers: topo.Brokers, Lines: topo.Lines, Pubs: []int{me}}, 0, from) != 1 {
					wantErr(t, "Take", x.b.Take(from, nil, 1), api.ErrGone)
					break
				}
				p := d.parcel(x)
				if d.roll(20) == 0 {
					p = api.Parcel{Kind: ofProbe}
					x.peers[from].Probe()
				} else {
					wantErr(t, "Send", x.peers[from].Send(p), api.OK)
				}
				f, _ := x.peers[from].Pull()
				wantErr(t, "Take", x.b.Take(from, f, x.now), api.OK)
				x.w.take(from, p)
			}
			x.hold(d.roll(4) * d.roll(3))
		}
		x.hold(99)
	}
}
