package overlay

import (
	"grapevine/api"
	"grapevine/event"
)

// maxSteps is how often one act delivers at most.
const maxSteps = 16

// mark adds a mark to the trace, unless it says nothing.
func (o *Overlay) mark(m api.Mark) {
	if m.Is != api.NoNote {
		o.trace = append(o.trace, m)
	}
}

// call is how a call of a broker went.
type call struct {
	fault api.Errno
	wasUp bool
}

// note is what a call is marked as; one that was broken off may have been done, or not.
func (c call) note(done, broken api.Note) api.Note {
	switch {
	case c.fault == api.OK:
		return done
	case c.fault == api.ErrDown && c.wasUp:
		return broken
	}
	return api.NoNote
}

// write does what a publisher does.
func (o *Overlay) write(a api.Act) api.Errno {
	n := o.writer(a.A)
	c, m := call{wasUp: !n.disk.Down()}, api.Mark{A: a.A}
	var tick int
	if a.Do == api.Force {
		c.fault = n.broker.Force(a.A, a.N)
		m.Is, m.From = c.note(api.Released, api.Released), a.N
	} else {
		tick, c.fault = n.broker.Publish(a.A, a.Event, o.now)
		m.Is = c.note(api.Told, api.Tried)
	}
	switch m.Is {
	case api.Told:
		m.From = tick
		fallthrough
	case api.Tried:
		m.Event = ownEvent(a.Event)
	}
	o.mark(m)
	return c.fault
}

// read does what a subscription does.
func (o *Overlay) read(a api.Act) api.Errno {
	n, s := o.reader(a.A), &o.seats[a.A-1]
	c, m := call{wasUp: !n.disk.Down()}, api.Mark{A: a.A}
	switch a.Do {
	case api.Deliver:
		return o.deliver(a)
	case api.Subscribe:
		c.fault = n.broker.Subscribe(a.A)
		m.Is = c.note(api.Asked, api.Asked)
	case api.Unsubscribe:
		c.fault = n.broker.Unsubscribe(a.A)
		m.Is = c.note(api.Ended, api.NoNote)
	case api.Connect:
		m.From, c.fault = n.broker.Connect(a.A)
		m.Is = c.note(api.Began, api.NoNote)
	case api.Disconnect:
		c.fault = n.broker.Disconnect(a.A)
		m.Is = c.note(api.Closed, api.NoNote)
	case api.AckUp:
		m.From = o.ackable(a)
		c.fault = n.broker.Ack(a.A, m.From)
		m.Is = c.note(api.Acked, api.AckTried)
	}
	switch m.Is {
	case api.Began:
		s.connected, s.cursor = true, m.From
	case api.Ended, api.Closed:
		s.connected = false
	}
	o.mark(m)
	return c.fault
}

// ackable is up to where a subscription acks: all that it was told but the last ticks, though not less than it has acked.
func (o *Overlay) ackable(a api.Act) int {
	_, acked := o.reader(a.A).broker.State(a.A)
	return max(acked, o.seats[a.A-1].cursor-max(a.N, 0))
}

// deliver hands a subscription what comes next, until nothing does.
func (o *Overlay) deliver(a api.Act) api.Errno {
	b, s := o.reader(a.A).broker, &o.seats[a.A-1]
	for range min(max(a.N, 1), maxSteps) {
		step, fault := b.Deliver(a.A)
		if fault != api.OK {
			return fault
		}
		o.mark(s.told(a.A, step))
		s.cursor = max(s.cursor, step.To)
		if step.Is == api.Unknown {
			break
		}
	}
	return api.OK
}

// told is the mark of what was delivered.
func (s *seat) told(id int, step api.Step) api.Mark {
	m := api.Mark{A: id, From: step.From}
	switch {
	case step.Is == api.Data:
		m.Is = api.Got
		m.Event, _, _ = event.Take(step.Item.Body, 0)
	case step.Is == api.Lost:
		m.Is, m.To = api.Gap, step.To
	case step.To > s.cursor:
		m.Is, m.From = api.Quiet, step.To
	}
	return m
}
