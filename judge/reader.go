package judge

import (
	"slices"

	"grapevine/api"
)

// reader is what a subscription is held against, with its publisher.
type reader struct {
	api.Sub
	*writer
	asked, fresh, open bool
	floor              int // the least tick at which it may begin, if it is fresh
	cursor, acked      int
	mayAck             int   // what it may have acked
	most               int   // the greatest cursor that it had since it was fresh
	own                []int // the ticks of its own events that were told, rising
}

// firstOwn is where its first own event from a tick on stands, or would.
func (r *reader) firstOwn(tick int) int {
	at, _ := slices.BinarySearch(r.own, tick)
	return at
}

// passes: was an event of its own told of a tick of a range?
func (r *reader) passes(from, to int) bool {
	at := r.firstOwn(from)
	return at < len(r.own) && r.own[at] <= to
}

// move has its cursor be at a tick.
func (r *reader) move(to int) {
	r.cursor = to
	r.most = max(r.most, to)
	r.passed = max(r.passed, to)
}

// holdReader holds a mark of a subscription against it.
func (c *court) holdReader(r *reader, m api.Mark) api.Errno {
	switch m.Is {
	case api.Asked:
		if r.open {
			return api.ErrBusy
		}
		r.asked, r.fresh, r.floor = true, true, r.last()
		return api.OK
	case api.Ended:
		r.asked, r.open = false, false
		return api.OK
	case api.Began:
		return r.begin(m.From)
	}
	if !r.open {
		return api.ErrBusy
	}
	switch m.Is {
	case api.Closed:
		r.open = false
		return api.OK
	case api.Acked, api.AckTried:
		return r.ack(m)
	}
	return c.handOut(r, m)
}

// begin has it be handed what is behind a tick.
func (r *reader) begin(from int) api.Errno {
	if !r.asked {
		return api.ErrBusy
	}
	if fault := r.mayBegin(from); fault != api.OK {
		return fault
	}
	if r.fresh {
		r.most = 0
	}
	r.open, r.fresh = true, false
	r.acked, r.mayAck = from, 0
	r.move(from)
	return api.OK
}

// mayBegin: why it may not begin behind a tick, if so.
func (r *reader) mayBegin(from int) api.Errno {
	if r.fresh {
		if !isTick(from, r.floor) {
			return api.ErrTick
		}
		return api.OK
	}
	if from < r.acked || from > r.most {
		return api.ErrTick
	}
	acked := r.acked
	if r.mayAck <= from {
		acked = max(acked, r.mayAck)
	}
	if r.passes(acked+1, from) {
		return api.ErrGone
	}
	return api.OK
}

// ack has it have acked a tick, for sure or perhaps.
func (r *reader) ack(m api.Mark) api.Errno {
	if m.From < r.acked || m.From > r.cursor {
		return api.ErrTick
	}
	if m.Is == api.Acked {
		r.acked, r.mayAck = m.From, 0
	} else {
		r.mayAck = max(r.mayAck, m.From)
	}
	return api.OK
}

// handOut has it be handed an event, silence, or what is lost; ahead of it nothing of its own may be passed over.
func (c *court) handOut(r *reader, m api.Mark) api.Errno {
	if !isTick(m.From, r.cursor+1) {
		return api.ErrTick
	}
	ahead, to := m.From-1, m.From
	switch m.Is {
	case api.Got:
		if !c.holdEvent(r.writer, m.From, m.Event) || !r.passes(m.From, m.From) {
			return api.ErrForm
		}
	case api.Quiet:
		ahead = m.From
	case api.Gap:
		to = m.To
		if !isTick(to, m.From) {
			return api.ErrTick
		}
		if to > r.released {
			return api.ErrLimit
		}
	}
	if r.passes(r.cursor+1, ahead) {
		return api.ErrGone
	}
	r.move(to)
	return api.OK
}
