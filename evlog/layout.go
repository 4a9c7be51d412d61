package evlog

import (
	"bytes"

	"grapevine/api"
	"grapevine/octet"
)

// What a sector that is laid is for.
const (
	headKind  = 1 + iota // a segment's head
	firstKind            // the first part of a record
	moreKind             // one of its other parts
)

const (
	edge      = 0xe7 // the first byte of a sector that is laid, and the last one
	payloadAt = 4    // where its payload is, behind its edge, kind, length and whether it is a last one
	room      = api.Sector - payloadAt - 1
	topNumber = 1 << 62 // the greatest number of a segment
)

// part is what a sector is laid with.
type part struct {
	kind    byte
	last    bool
	payload []byte // at most room bytes
}

// lay is the bytes of a sector.
func lay(p part) []byte {
	var b [api.Sector]byte
	b[0] = edge
	b[1] = p.kind
	b[2] = byte(len(p.payload))
	if p.last {
		b[3] = 1
	}
	copy(b[payloadAt:], p.payload)
	b[api.Sector-1] = edge
	return b[:]
}

// look is what a sector is laid with; false, if it is not good.
func look(b []byte) (part, bool) {
	if len(b) != api.Sector || b[2] > room {
		return part{}, false
	}
	end := payloadAt + int(b[2])
	p := part{b[1], b[3] == 1, b[payloadAt:end:end]}
	full := len(p.payload) == room
	good := p.kind >= headKind && p.kind <= moreKind && (p.last || full) && bytes.Equal(b, lay(p))
	return p, good
}

// empty: are a sector's bytes all 0?
func empty(b []byte) bool { return bytes.Equal(b, make([]byte, api.Sector)) }

// head is the part with which a segment begins.
func head(number int64, tick int) part {
	return part{headKind, true, append(octet.Key(number), octet.Key(int64(tick))...)}
}

// takeHead is a head's number and tick; false, if the sector is none.
func takeHead(b []byte) (int64, int, bool) {
	p, good := look(b)
	if !good || p.kind != headKind || !p.last {
		return 0, 0, false
	}
	number, at, _ := octet.TakeKey(p.payload, 0)
	tick, end, fault := octet.TakeKey(p.payload, at)
	if fault != api.OK || end != len(p.payload) {
		return 0, 0, false
	}
	if number < 1 || number > topNumber || tick < 0 || tick > api.MaxTick {
		return 0, 0, false
	}
	return number, int(tick), true
}

// cut is the parts of a record's bytes.
func cut(b []byte) []part {
	var parts []part
	kind := byte(firstKind)
	for at := 0; at < len(b); at += room {
		end := min(at+room, len(b))
		parts = append(parts, part{kind, end == len(b), b[at:end:end]})
		kind = moreKind
	}
	return parts
}
