package judge

import (
	"bytes"
	"cmp"
	"slices"

	"grapevine/api"
	"grapevine/event"
	"grapevine/pred"
)

// writer is what a publisher is held against. Of events their bytes are kept, for by those they are the same.
type writer struct {
	told     []api.Rec // by their ticks
	tried    [][]byte
	released int
	passed   int // the greatest cursor that its subscriptions ever had
}

// last is the greatest tick of which it told; 0, if of none.
func (w *writer) last() int {
	if len(w.told) == 0 {
		return 0
	}
	return w.told[len(w.told)-1].Tick
}

// place is where the event of a tick stands, or would; true, if there is one.
func (w *writer) place(tick int) (int, bool) {
	return slices.BinarySearchFunc(w.told, tick, func(r api.Rec, tick int) int { return cmp.Compare(r.Tick, tick) })
}

// holdWriter holds a mark of a publisher against it.
func (c *court) holdWriter(w *writer, m api.Mark) api.Errno {
	if m.Is == api.Released {
		if !isTick(m.From, 0) {
			return api.ErrTick
		}
		w.released = max(w.released, m.From)
		return api.OK
	}
	if event.Fits(c.schema, m.Event) != api.OK {
		return api.ErrForm
	}
	// It is right, for it fits.
	body, _ := event.Put(m.Event)
	if m.Is == api.Tried {
		w.tried = append(w.tried, body)
		return api.OK
	}
	if !isTick(m.From, max(w.last(), w.passed)+1) {
		return api.ErrTick
	}
	c.tell(w, m.From, m.Event, body)
	return api.OK
}

// isTick: is it a tick from the least one on?
func isTick(tick, least int) bool { return tick >= least && tick <= api.MaxTick }

// tell has an event be told of a tick of which none was.
func (c *court) tell(w *writer, tick int, e api.Event, body []byte) {
	at, _ := w.place(tick)
	w.told = slices.Insert(w.told, at, api.Rec{Tick: tick, Body: body})
	for _, r := range c.readers {
		if r.writer != w {
			continue
		}
		if is, _ := pred.Eval(r.Terms, e); is {
			r.own = slices.Insert(r.own, r.firstOwn(tick), tick)
		}
	}
}

// holdEvent: was this event told of that tick? One that was tried is told of it now.
func (c *court) holdEvent(w *writer, tick int, e api.Event) bool {
	body, fault := event.Put(e)
	if fault != api.OK {
		return false
	}
	if at, is := w.place(tick); is {
		return bytes.Equal(w.told[at].Body, body)
	}
	at := slices.IndexFunc(w.tried, func(b []byte) bool { return bytes.Equal(b, body) })
	if at < 0 {
		return false
	}
	w.tried = slices.Delete(w.tried, at, at+1)
	c.tell(w, tick, e, body)
	return true
}
