package broker

import (
	"grapevine/api"
	"grapevine/span"
)

// Tick lets a tick pass.
func (b *Broker) Tick(now int) api.Errno {
	if fault := b.shut(); fault != api.OK {
		return fault
	}
	if now < 0 || now > api.MaxTick {
		return api.ErrArg
	}
	for id := range b.here() {
		if fault := b.seats[id].settle(); fault != api.OK {
			return fault
		}
		if fault := b.speak(b.seats[id]); fault != api.OK {
			return fault
		}
	}
	for pub := range b.topo.Pubs {
		if fault := b.pass(b.parts[pub], now); fault != api.OK {
			return fault
		}
	}
	for pub := range b.topo.Pubs {
		b.refresh(b.parts[pub], now)
	}
	for _, other := range neighbours(b.topo, b.me) {
		// A probe that finds no room is dropped: others wait that tell as much.
		b.links[other].Probe()
	}
	return api.OK
}

// settle acks what a subscription was told behind the last item that it was handed, once it has acked that: it is silent, or lost.
func (s *seat) settle() api.Errno {
	if acked := s.acked(); !s.connected || acked < s.handed || acked >= s.cursor {
		return api.OK
	}
	return s.ack(s.cursor)
}

// speak says how a subscription here stands, if it was ever subscribed.
func (b *Broker) speak(s *seat) api.Errno {
	said := api.Parcel{Kind: api.Leave, Pub: s.pub, Sub: s.id, N: s.number()}
	if said.N == 0 {
		return api.OK
	}
	switch s.state() {
	case asked:
		said.Kind = api.Join
	case on:
		said.Kind, said.From = api.Ack, s.acked()
	}
	return b.carry(b.parts[s.pub], said)
}

// pass has the promise of a publisher that is here follow the tick, and lets go of what all have acked.
func (b *Broker) pass(p *part, now int) api.Errno {
	if !p.isHome() {
		return api.OK
	}
	if old := p.reached(); now-1 > old {
		p.promise = now - 1
		b.handOn(p, old+1, now-1)
	}
	return p.log.Chop(b.free(p))
}

// free is up to where the log of a publisher that is here is needed no more.
func (b *Broker) free(p *part) int {
	least := p.log.High()
	for id := range b.of(p.pub) {
		if m := p.members[id]; m.isOn() {
			least = min(least, m.acked())
		}
	}
	return least
}

// refresh hands on the last tick of a publisher that is known, and asks for what subscriptions here do not have by now.
func (b *Broker) refresh(p *part, now int) {
	last := p.last()
	if last > 0 {
		b.handOn(p, last, last)
	}
	if least, is := b.behind(p.pub); is {
		b.seek(p, least+1, max(last, now-1))
	}
}

// behind is the least acked tick of a publisher's subscriptions that are on here; false, if none is.
func (b *Broker) behind(pub int) (int, bool) {
	least, is := api.MaxTick, false
	for id, s := range b.here() {
		if s.Pub == pub && b.seats[id].isOn() {
			least, is = min(least, b.seats[id].acked()), true
		}
	}
	return least, is
}

// seek asks for what the stream does not know of a range, if there is such a range.
func (b *Broker) seek(p *part, from, to int) {
	gaps, _ := span.Gaps(p.stream.Map(), from, to)
	if len(gaps) == 0 {
		return
	}
	from, to = gaps[0].From, gaps[len(gaps)-1].To
	if p.isHome() {
		b.learnOwn(p, from, to)
		return
	}
	b.send(api.Parcel{Kind: api.Want, Pub: p.pub, From: from, To: to}, p.up...)
}
