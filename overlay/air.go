package overlay

import (
	"slices"

	"grapevine/api"
)

// frame is one in the air, from a broker to a neighbour of it.
type frame struct {
	from, to int
	bytes    []byte
	isSpoilt bool
}

// isFlying: is there a frame with this number?
func (o *Overlay) isFlying(n int) bool { return n >= 0 && n < len(o.air) }

// Air is a frame in the air.
func (o *Overlay) Air(n int) (int, int, []byte) {
	if o == nil || !o.isFlying(n) {
		return -1, -1, nil
	}
	f := o.air[n]
	return f.from, f.to, slices.Clone(f.bytes)
}

// fly does what becomes of frames in the air.
func (o *Overlay) fly(a api.Act) api.Errno {
	switch a.Do {
	case api.Lift:
		return o.lift(a)
	case api.Land:
		return o.land(o.air[a.N])
	case api.Spoil:
		return o.air[a.N].spoil(a)
	}
	o.air = slices.Delete(o.air, a.N, a.N+1)
	return api.OK
}

// lift has the next frame to a neighbour go into the air.
func (o *Overlay) lift(a api.Act) api.Errno {
	n := o.nodes[a.A]
	if a.B < 0 || a.B >= len(n.others) {
		return api.ErrArg
	}
	if len(o.air) >= api.MaxAir {
		return api.ErrFull
	}
	to := n.others[a.B]
	b, is := n.broker.Pull(to)
	if !is {
		return api.ErrGone
	}
	o.air = append(o.air, frame{from: n.me, to: to, bytes: b})
	return api.OK
}

// land has a frame come.
func (o *Overlay) land(f frame) api.Errno {
	return o.nodes[f.to].broker.Take(f.from, f.bytes, o.now)
}

// spoil changes a byte of a frame, once at most: so its sum tells.
func (f *frame) spoil(a api.Act) api.Errno {
	if f.isSpoilt {
		return api.ErrKnown
	}
	if a.A < 0 || a.A >= len(f.bytes) || a.B < 1 || a.B > 255 {
		return api.ErrArg
	}
	f.bytes[a.A] ^= byte(a.B)
	f.isSpoilt = true
	return api.OK
}
