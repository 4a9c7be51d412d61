package broker

import (
	"grapevine/api"
	"grapevine/mark"
)

// change is a cell, and what it is to have.
type change struct{ cell, value int }

// put changes cells, one behind the other, as far as the disk lets it: what is broken off has changed the first ones alone.
func put(c *mark.Cells, changes ...change) api.Errno {
	for _, x := range changes {
		if fault := c.Put(x.cell, x.value); fault != api.OK {
			return fault
		}
	}
	return api.OK
}

// get is what a cell has; 0, if it has nothing.
func get(c *mark.Cells, cell int) int {
	v, _ := c.Get(cell)
	return v
}

// stateCell and ackedCell are the cells of a subscription, at its own broker and at its publisher's one.
func stateCell(id int) int { return id - 1 }

func ackedCell(id int) int { return api.MaxHosted + id - 1 }

// member is a subscription at its publisher's broker.
type member struct {
	cells *mark.Cells
	id    int
}

// number is that of its subscribing; 0, if it never was.
func (m member) number() int { return get(m.cells, stateCell(m.id)) / 2 }

func (m member) isOn() bool { return get(m.cells, stateCell(m.id))%2 == 1 }

func (m member) acked() int { return get(m.cells, ackedCell(m.id)) }

// enter has it be on, with a number and an acked tick. This one is put first: the number tells that both are there.
func (m member) enter(number, acked int) api.Errno {
	return put(m.cells, change{ackedCell(m.id), acked}, change{stateCell(m.id), 2*number + 1})
}

// ack has it need nothing up to a tick.
func (m member) ack(t int) api.Errno { return put(m.cells, change{ackedCell(m.id), t}) }

// leave has it be off, with a number.
func (m member) leave(number int) api.Errno { return put(m.cells, change{stateCell(m.id), 2 * number}) }

// How a subscription stands at its own broker.
const (
	off = iota
	asked
	on
	states = 4 // one more than the greatest state; 3 counts as off
)

// seat is a subscription at its own broker.
type seat struct {
	cells     *mark.Cells
	id, pub   int
	connected bool
	cursor    int
	handed    int // the tick of the item that it was handed last
}

// number is that of its subscribing; 0, if it never was.
func (s *seat) number() int { return get(s.cells, stateCell(s.id)) / states }

func (s *seat) state() int {
	if state := get(s.cells, stateCell(s.id)) % states; state == asked || state == on {
		return state
	}
	return off
}

func (s *seat) isOn() bool { return s.state() == on }

func (s *seat) acked() int { return get(s.cells, ackedCell(s.id)) }

// stand has it stand so, with a number.
func (s *seat) stand(number, state int) api.Errno {
	return put(s.cells, change{stateCell(s.id), states*number + state})
}

// start has it be on, with an acked tick, which is put first: its being on tells that it is there.
func (s *seat) start(acked int) api.Errno {
	return put(s.cells, change{ackedCell(s.id), acked}, change{stateCell(s.id), states*s.number() + on})
}

// ack has it need nothing up to a tick.
func (s *seat) ack(t int) api.Errno { return put(s.cells, change{ackedCell(s.id), t}) }
