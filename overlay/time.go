package overlay

import "grapevine/api"

// maxWait is how many ticks pass in one act at most.
const maxWait = 1000

// mayPass: are there so many ticks left, from at least to at most?
func (o *Overlay) mayPass(n, least, most int) bool {
	return n >= least && n <= most && n <= api.MaxTick-o.now
}

// setBeat has a broker be due Beat ticks from now, if there is such a tick.
func (o *Overlay) setBeat(me int) {
	if api.Beat <= api.MaxTick-o.now {
		o.beats.Set(me+1, o.now+api.Beat)
	}
}

// wait has ticks pass; brokers have theirs as they come due. What a calm has left behind is due at once.
func (o *Overlay) wait(n int) api.Errno {
	if !o.mayPass(n, 0, maxWait) {
		return api.ErrArg
	}
	to := o.now + n
	for at, is := o.beats.Next(); is && at <= to; at, is = o.beats.Next() {
		o.now = max(o.now, at)
		due, _ := o.beats.Advance(o.now)
		for _, id := range due {
			// One that is down has its timer nevertheless: it may be up by the next one.
			o.nodes[id-1].broker.Tick(o.now)
			o.setBeat(id - 1)
		}
	}
	o.now = to
	return api.OK
}

// calm is rounds in which all comes.
func (o *Overlay) calm(n int) api.Errno {
	if !o.mayPass(n, 1, api.MaxRounds) {
		return api.ErrArg
	}
	o.air = nil
	for me, n := range o.nodes {
		if n.disk.Down() {
			o.crash(me, nil)
		}
		n.disk.Trip(0)
	}
	for range n {
		o.now++
		for _, n := range o.nodes {
			n.broker.Tick(o.now)
		}
		for o.carry() {
		}
	}
	return api.OK
}

// carry has all frames that wait be taken, each as it is pulled; false, if none did.
func (o *Overlay) carry() bool {
	some := false
	for _, n := range o.nodes {
		for _, to := range n.others {
			for b, is := n.broker.Pull(to); is; b, is = n.broker.Pull(to) {
				o.land(frame{from: n.me, to: to, bytes: b})
				some = true
			}
		}
	}
	return some
}
