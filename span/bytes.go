package span

import (
	"grapevine/api"
	"grapevine/octet"
)

// Put is a map's bytes.
func Put(l []api.Span) ([]byte, api.Errno) {
	if !Right(l) {
		return nil, api.ErrArg
	}
	if len(l) > api.MaxSpans {
		return nil, api.ErrLimit
	}
	out := octet.Uint(uint64(len(l)))
	end := 0
	for _, s := range l {
		out = append(out, octet.Uint(uint64(s.From-end-1))...)
		out = append(out, octet.Uint(uint64(s.To-s.From))...)
		out = append(out, byte(s.Is))
		end = s.To
	}
	return out, api.OK
}

// Take is the map at a place, and the place behind it.
func Take(b []byte, at int) ([]api.Span, int, api.Errno) {
	count, next, fault := octet.TakeUint(b, at)
	if fault != api.OK {
		return nil, 0, fault
	}
	if count > api.MaxSpans {
		return nil, 0, api.ErrLimit
	}
	var l []api.Span
	var ahead api.Span
	for range count {
		ahead, next, fault = takeSpan(b, next, ahead)
		if fault != api.OK {
			return nil, 0, fault
		}
		l = append(l, ahead)
	}
	return l, next, api.OK
}

// takeSpan is the span at a place, behind the one ahead (a zero one of the first), and the place behind it.
func takeSpan(b []byte, at int, ahead api.Span) (api.Span, int, api.Errno) {
	between, next, fault := octet.TakeUint(b, at)
	if fault != api.OK {
		return api.Span{}, 0, fault
	}
	more, next, fault := octet.TakeUint(b, next)
	if fault != api.OK {
		return api.Span{}, 0, fault
	}
	if next == len(b) {
		return api.Span{}, 0, api.ErrShort
	}
	s, fits := placed(ahead, between, more)
	s.Is = api.Know(b[next])
	if !fits || !isKnown(s.Is) || goesOn(ahead, s) {
		return api.Span{}, 0, api.ErrForm
	}
	return s, next + 1, api.OK
}

// placed is the span that begins so many ticks behind the end of the one ahead, and has so many more than one; false, if it would go beyond MaxTick.
func placed(ahead api.Span, between, more uint64) (api.Span, bool) {
	left := uint64(api.MaxTick - ahead.To)
	// Neither number is added to before it is known to be small.
	if between >= left || more >= left-between {
		return api.Span{}, false
	}
	from := ahead.To + 1 + int(between)
	return api.Span{From: from, To: from + int(more)}, true
}
