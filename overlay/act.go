package overlay

import "grapevine/api"

// Do does an act.
func (o *Overlay) Do(a api.Act) api.Errno {
	switch {
	case o == nil:
		return api.ErrNil
	case len(o.trace) >= api.MaxMarks:
		return api.ErrLimit
	case a.Do < api.Publish || a.Do > api.Calm:
		return api.ErrType
	case !o.has(a):
		return api.ErrArg
	}
	switch a.Do {
	case api.Publish, api.Force:
		return o.write(a)
	case api.Wait:
		return o.wait(a.N)
	case api.Calm:
		return o.calm(a.N)
	case api.TickOne:
		return o.nodes[a.A].broker.Tick(o.now)
	case api.Crash:
		return o.crash(a.A, a.Fates)
	case api.Trip:
		return o.nodes[a.A].disk.Trip(a.N)
	case api.Lift, api.Land, api.Drop, api.Spoil:
		return o.fly(a)
	}
	return o.read(a)
}

// has: is there what an act names?
func (o *Overlay) has(a api.Act) bool {
	switch a.Do {
	case api.Publish, api.Force:
		return o.isPub(a.A)
	case api.TickOne, api.Lift, api.Crash, api.Trip:
		return a.A >= 0 && a.A < len(o.nodes)
	case api.Land, api.Drop, api.Spoil:
		return o.isFlying(a.N)
	case api.Wait, api.Calm:
		return true
	}
	return o.isSub(a.A)
}

// crash has a broker begin anew.
func (o *Overlay) crash(me int, fates []int) api.Errno {
	n := o.nodes[me]
	n.disk.Crash(fates)
	for i := range o.seats {
		if s := &o.seats[i]; s.at == me && s.connected {
			s.connected = false
			o.mark(api.Mark{Is: api.Closed, A: i + 1})
		}
	}
	return n.live()
}
