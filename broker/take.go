package broker

import (
	"slices"

	"grapevine/api"
)

// Take takes a frame of a neighbour.
func (b *Broker) Take(from int, frame []byte, now int) api.Errno {
	if fault := b.shut(); fault != api.OK {
		return fault
	}
	l := b.links[from]
	if l == nil {
		return api.ErrGone
	}
	m, is, fault := l.Take(frame, now)
	if fault != api.OK || !is || !isPub(b.topo, m.Pub) {
		return fault
	}
	return b.take(from, m)
}

// take takes a parcel of a publisher of the overlay: what comes down from those Up, and what goes up from those Down.
func (b *Broker) take(from int, m api.Parcel) api.Errno {
	p := b.parts[m.Pub]
	isUp, isDown := slices.Contains(p.up, from), slices.Contains(p.down, from)
	switch m.Kind {
	case api.Tell:
		if isUp {
			b.learn(p, m)
		}
	case api.Want:
		if isDown {
			b.answer(p, from, m)
		}
	case api.Grant:
		if isUp && b.isSubOf(m) {
			return b.grant(p, m)
		}
	default:
		if isDown && b.isSubOf(m) {
			return b.carry(p, m)
		}
	}
	return api.OK
}

// isSubOf: is a parcel's subscription one of its publisher?
func (b *Broker) isSubOf(m api.Parcel) bool {
	return m.Sub <= len(b.topo.Subs) && b.topo.Subs[m.Sub-1].Pub == m.Pub
}

// learn learns a Tell, and hands it on, if it is news.
func (b *Broker) learn(p *part, m api.Parcel) {
	if is, _ := p.stream.Learn(m); is {
		b.handOn(p, m.From, m.To)
	}
}

// answer tells one that is Down what it wants to know, and asks those Up for the rest.
func (b *Broker) answer(p *part, from int, m api.Parcel) {
	b.tell(p, from, m.From, m.To)
	if !p.isHome() {
		b.seek(p, m.From, m.To)
	}
}

// carry does what a subscription says, if this is its publisher's broker, and else sends it up.
func (b *Broker) carry(p *part, m api.Parcel) api.Errno {
	if p.isHome() {
		return b.do(p, m)
	}
	b.send(m, p.up...)
	return api.OK
}

// do does what a subscription of a publisher that is here says.
func (b *Broker) do(p *part, m api.Parcel) api.Errno {
	kept := p.members[m.Sub]
	switch number := kept.number(); m.Kind {
	case api.Join:
		return b.join(p, kept, m.N)
	case api.Ack:
		if m.N == number && kept.isOn() && m.From > kept.acked() {
			return kept.ack(m.From)
		}
	case api.Leave:
		if m.N >= number {
			return kept.leave(m.N)
		}
	}
	return api.OK
}

// join has a subscription be on, unless what it says is outdated, and grants it.
func (b *Broker) join(p *part, m member, number int) api.Errno {
	if number > m.number() {
		if fault := m.enter(number, p.reached()); fault != api.OK {
			return fault
		}
	}
	if number < m.number() || !m.isOn() {
		return api.OK
	}
	return b.grant(p, api.Parcel{Kind: api.Grant, Pub: p.pub, Sub: m.id, N: number, From: m.acked()})
}

// grant has a subscription here that asks with this number be on; of others it is sent Down towards them.
func (b *Broker) grant(p *part, m api.Parcel) api.Errno {
	if s := b.seats[m.Sub]; s != nil && s.state() == asked && s.number() == m.N {
		return s.start(m.From)
	}
	for _, other := range p.down {
		if p.reach[other]&bit(m.Sub) != 0 {
			b.send(m, other)
		}
	}
	return api.OK
}
