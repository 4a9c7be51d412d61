package broker

import (
	"grapevine/api"
	"grapevine/event"
	"grapevine/evlog"
	"grapevine/mark"
	"grapevine/pred"
	"grapevine/stream"
)

// Where a publisher that is here has its sectors: its cells, and its log behind them.
const (
	partBase    = 32
	partSectors = 98
	partCells   = 32 // sectors of its cells
)

// part is what a broker has of a publisher. A log, members and a promise are there at the publisher's own broker alone.
type part struct {
	pub      int
	stream   *stream.Stream
	up, down []int
	reach    map[int]uint32 // by the brokers Down: the subscriptions to which each leads
	own      uint32         // the publisher's subscriptions here
	log      *evlog.Log
	members  map[int]member // by the publisher's subscriptions
	promise  int            // up to it no further event comes
}

// open makes the part of a publisher, with what the disk has of it.
func (b *Broker) open(pub int) api.Errno {
	t := b.topo
	p := &part{pub: pub, stream: stream.New(), up: farther(t, pub, b.me, -1), down: farther(t, pub, b.me, 1), reach: map[int]uint32{}}
	for _, other := range p.down {
		p.reach[other] = reach(t, pub, other)
	}
	p.own = bitsOf(subs(t, func(s api.Sub) bool { return s.Pub == pub && s.Broker == b.me }))
	b.parts[pub] = p
	if t.Pubs[pub] != b.me {
		return api.OK
	}
	return b.openHome(p)
}

// openHome opens what a publisher's own broker has on its disk.
func (b *Broker) openHome(p *part) api.Errno {
	base := partBase + partSectors*p.pub
	log, fault := evlog.Open(b.disk, base+partCells, api.LogSegs)
	if fault != api.OK {
		return fault
	}
	// The disk is as great as it must be.
	cells, _ := mark.Open(b.disk, base, 2*api.MaxHosted)
	p.members = map[int]member{}
	for id := range b.of(p.pub) {
		p.members[id] = member{cells, id}
	}
	p.log, p.promise = log, log.High()
	b.learnOwn(p, 1, p.reached())
	return api.OK
}

// isHome: is this the publisher's broker?
func (p *part) isHome() bool { return p.log != nil }

// reached is the tick up to which no further event comes, at the publisher's broker.
func (p *part) reached() int { return max(p.promise, p.log.High()) }

// known is what tells of a range: the stream or, at the publisher's broker, what that knows.
func (b *Broker) known(p *part, from, to int) *stream.Stream {
	if !p.isHome() {
		return p.stream
	}
	known := stream.New()
	known.Lose(p.log.Rel())
	next := max(from, p.log.Rel()+1)
	to = min(to, p.reached())
	// A log has room for fewer records than a stream keeps items.
	for _, r := range p.log.Events(next, to) {
		known.Learn(news(p.pub, next, r.Tick-1, api.Item{Tick: r.Tick, For: b.whose(p, r), Body: r.Body}))
		next = r.Tick + 1
	}
	if next <= to {
		known.Learn(news(p.pub, next, to))
	}
	return known
}

// news is a Tell of silence from a tick to another one, perhaps none, and of the items that follow at once.
func news(pub, from, to int, items ...api.Item) api.Parcel {
	tell := api.Parcel{Kind: api.Tell, Pub: pub, From: from, To: to + len(items), Items: items}
	if from <= to {
		tell.Spans = []api.Span{{From: from, To: to, Is: api.Silence}}
	}
	return tell
}

// whose are the bits of those that are on and whose predicates tell true of a record's event.
func (b *Broker) whose(p *part, r api.Rec) uint32 {
	e, _, fault := event.Take(r.Body, 0)
	if fault != api.OK {
		return 0
	}
	var all uint32
	for id, s := range b.of(p.pub) {
		if told, _ := pred.Eval(s.Terms, e); told && p.members[id].isOn() {
			all |= bit(id)
		}
	}
	return all
}

// tells is what is known of a range, for those to whom it leads; none, if there is no such range.
func (b *Broker) tells(p *part, from, to int, links uint32) []api.Parcel {
	l, _ := b.known(p, from, to).Tell(p.pub, from, to, links)
	return l
}

// learnOwn has the stream, at the publisher's broker, learn what that knows of a range, for the subscriptions here.
func (b *Broker) learnOwn(p *part, from, to int) {
	for _, tell := range b.tells(p, from, to, p.own) {
		p.stream.Learn(tell)
	}
}

// handOn hands on a range.
func (b *Broker) handOn(p *part, from, to int) {
	if p.isHome() {
		b.learnOwn(p, from, to)
	}
	for _, other := range p.down {
		b.tell(p, other, from, to)
	}
}

// tell sends what is known of a range to a broker Down.
func (b *Broker) tell(p *part, other, from, to int) {
	for _, tell := range b.tells(p, from, to, p.reach[other]) {
		b.send(tell, other)
	}
}

// send sends a parcel to neighbours. What finds no room is dropped: it is asked for, or said, again.
func (b *Broker) send(m api.Parcel, to ...int) {
	for _, other := range to {
		b.links[other].Send(m)
	}
}

// last is the last tick of which something is known, or 0. At the publisher's broker the stream learns all that comes to be known, so it is the same there.
func (p *part) last() int {
	known := p.stream.Map()
	if len(known) == 0 {
		return 0
	}
	return known[len(known)-1].To
}
