package parcel

import (
	"bytes"

	"grapevine/api"
	"grapevine/octet"
	"grapevine/span"
)

const (
	maxNumber = 1 << 40   // numbers in a parcel's bytes
	maxFor    = 1<<32 - 1 // bits of subscriptions
)

// Put is a parcel's bytes.
func Put(p api.Parcel) ([]byte, api.Errno) {
	if fault := Check(p); fault != api.OK {
		return nil, fault
	}
	u, _ := usedBy(p.Kind)
	out := putNumbers([]byte{byte(p.Kind)}, p.Pub)
	if u.sub {
		out = putNumbers(out, p.Sub, p.N)
	}
	if u.from {
		out = putNumbers(out, p.From)
	}
	if u.to {
		out = putNumbers(out, p.To)
	}
	if u.news {
		out = putNews(out, p)
	}
	return out, api.OK
}

func putNumbers(out []byte, numbers ...int) []byte {
	for _, n := range numbers {
		out = append(out, octet.Uint(uint64(n))...)
	}
	return out
}

func putNews(out []byte, p api.Parcel) []byte {
	// The spans of a parcel that may be are a map, and fewer than span's own limit.
	spans, _ := span.Put(p.Spans)
	out = putNumbers(append(out, spans...), len(p.Items))
	for _, item := range p.Items {
		out = putNumbers(out, item.Tick, int(item.For), len(item.Body))
		out = append(out, item.Body...)
	}
	return out
}

// Take is the parcel whose bytes they are.
func Take(b []byte) (api.Parcel, api.Errno) {
	if len(b) == 0 {
		return api.Parcel{}, api.ErrShort
	}
	p := api.Parcel{Kind: api.Mail(b[0])}
	u, is := usedBy(p.Kind)
	if !is {
		return api.Parcel{}, api.ErrType
	}
	r := reader{b: b, at: 1}
	r.parcel(&p, u)
	if fault := r.end(); fault != api.OK {
		return api.Parcel{}, fault
	}
	if fault := Check(p); fault != api.OK {
		return api.Parcel{}, fault
	}
	return p, api.OK
}

// reader goes through bytes from the left; from the first fault on it tells zeros.
type reader struct {
	b     []byte
	at    int
	fault api.Errno
}

// parcel fills in what is used.
func (r *reader) parcel(p *api.Parcel, u use) {
	p.Pub = r.number(maxNumber)
	if u.sub {
		p.Sub = r.number(maxNumber)
		p.N = r.number(maxNumber)
	}
	if u.from {
		p.From = r.number(maxNumber)
	}
	if u.to {
		p.To = r.number(maxNumber)
	}
	if u.news {
		p.Spans = r.spans()
		p.Items = r.items()
	}
}

// number is the next one, which may be up to a limit.
func (r *reader) number(limit uint64) int {
	if r.fault != api.OK {
		return 0
	}
	n, next, fault := octet.TakeUint(r.b, r.at)
	if fault == api.OK && n > limit {
		fault = api.ErrLimit
	}
	if fault != api.OK {
		r.fault = fault
		return 0
	}
	r.at = next
	return int(n)
}

func (r *reader) spans() []api.Span {
	if r.fault != api.OK {
		return nil
	}
	l, next, fault := span.Take(r.b, r.at)
	r.at, r.fault = next, fault
	return l
}

func (r *reader) items() []api.Item {
	var l []api.Item
	for range r.number(api.MaxItems) {
		var item api.Item
		item.Tick = r.number(maxNumber)
		item.For = uint32(r.number(maxFor))
		item.Body = r.bytes(r.number(api.MaxRec))
		l = append(l, item)
	}
	return l
}

// bytes is the next ones, as many as that.
func (r *reader) bytes(count int) []byte {
	if r.fault != api.OK {
		return nil
	}
	if count > len(r.b)-r.at {
		r.fault = api.ErrShort
		return nil
	}
	from := r.at
	r.at += count
	return bytes.Clone(r.b[from:r.at])
}

// end is what was wrong, or whether bytes are left.
func (r *reader) end() api.Errno {
	if r.fault == api.OK && r.at != len(r.b) {
		return api.ErrForm
	}
	return r.fault
}
