package link

import (
	"grapevine/api"
	"grapevine/octet"
	"grapevine/parcel"
	"grapevine/seal"
)

// Kinds of frames.
const (
	ofParcel byte = 1 + iota
	ofProbe
	ofAnswer
)

// frame is what a frame says: the sender's life, the life that it knows of the other end, the frame's number, and, of kind ofParcel, a parcel.
type frame struct {
	kind        byte
	life, knows int
	number      int
	parcel      api.Parcel
}

// read is what a frame's bytes say.
func read(b []byte) (frame, api.Errno) {
	s, end, fault := seal.Open(b, 0)
	if fault != api.OK {
		return frame{}, fault
	}
	if end != len(b) {
		return frame{}, api.ErrForm
	}
	f := frame{kind: s.Kind}
	var rest []byte
	switch s.Kind {
	case ofParcel:
		if rest, fault = f.numbers(s.Body); fault == api.OK {
			f.parcel, fault = parcel.Take(rest)
		}
	case ofProbe, ofAnswer:
		if rest, fault = f.numbers(s.Body); fault == api.OK && len(rest) > 0 {
			fault = api.ErrForm
		}
	default:
		fault = api.ErrType
	}
	if fault != api.OK {
		return frame{}, fault
	}
	return f, api.OK
}

// numbers fills in the three numbers that a body begins with, and is what stands behind them.
func (f *frame) numbers(body []byte) ([]byte, api.Errno) {
	var numbers [3]uint64
	at := 0
	for i := range numbers {
		n, next, fault := octet.TakeUint(body, at)
		if fault != api.OK {
			return nil, fault
		}
		numbers[i], at = n, next
	}
	life, knows, number := numbers[0], numbers[1], numbers[2]
	if life < 1 || life > api.MaxNumber || knows > api.MaxNumber || number < 1 || number > api.MaxFrames {
		return nil, api.ErrLimit
	}
	f.life, f.knows, f.number = int(life), int(knows), int(number)
	return body[at:], api.OK
}
