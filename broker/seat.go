package broker

import "grapevine/api"

// seat is that of a subscription here.
func (b *Broker) seat(id int) (*seat, api.Errno) {
	if fault := b.shut(); fault != api.OK {
		return nil, fault
	}
	s := b.seats[id]
	if s == nil {
		return nil, api.ErrGone
	}
	return s, api.OK
}

// linked is the seat of a subscription here that is connected.
func (b *Broker) linked(id int) (*seat, api.Errno) {
	s, fault := b.seat(id)
	if fault == api.OK && !s.connected {
		return nil, api.ErrBusy
	}
	return s, fault
}

// Subscribe asks for a subscription.
func (b *Broker) Subscribe(id int) api.Errno {
	s, fault := b.seat(id)
	if fault != api.OK {
		return fault
	}
	if s.state() != off {
		return api.ErrKnown
	}
	if s.number() >= api.MaxNumber {
		return api.ErrLimit
	}
	return s.stand(s.number()+1, asked)
}

// Unsubscribe ends a subscription.
func (b *Broker) Unsubscribe(id int) api.Errno {
	s, fault := b.seat(id)
	if fault != api.OK {
		return fault
	}
	if s.state() == off {
		return api.ErrGone
	}
	if fault := s.stand(s.number(), off); fault != api.OK {
		return fault
	}
	s.connected = false
	return api.OK
}

// Connect begins to deliver behind the acked tick.
func (b *Broker) Connect(id int) (int, api.Errno) {
	s, fault := b.seat(id)
	if fault != api.OK {
		return 0, fault
	}
	if s.state() != on {
		return 0, api.ErrBusy
	}
	s.connected, s.cursor = true, s.acked()
	return s.cursor, api.OK
}

// Disconnect ends delivering.
func (b *Broker) Disconnect(id int) api.Errno {
	s, fault := b.linked(id)
	if fault != api.OK {
		return fault
	}
	s.connected = false
	return api.OK
}

// Deliver is what comes next.
func (b *Broker) Deliver(id int) (api.Step, api.Errno) {
	s, fault := b.linked(id)
	if fault != api.OK {
		return api.Step{}, fault
	}
	// A cursor is a tick, and the number is one of a subscription.
	step, _ := b.parts[s.pub].stream.Next(s.cursor, id)
	s.cursor = max(s.cursor, step.To)
	if step.Is == api.Data {
		s.handed = step.From
	}
	return step, api.OK
}

// Ack says up to where nothing is needed any more.
func (b *Broker) Ack(id, t int) api.Errno {
	s, fault := b.linked(id)
	if fault != api.OK {
		return fault
	}
	if t < s.acked() || t > s.cursor {
		return api.ErrArg
	}
	return s.ack(t)
}

// State is whether a subscription is on, and its acked tick.
func (b *Broker) State(id int) (on bool, acked int) {
	s, fault := b.seat(id)
	if fault != api.OK || !s.isOn() {
		return false, 0
	}
	return true, s.acked()
}
