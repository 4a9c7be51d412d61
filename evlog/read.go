package evlog

import (
	"cmp"
	"slices"

	"grapevine/api"
	"grapevine/octet"
)

// read has the log be what the disk tells.
func (l *Log) read() {
	l.used = l.heads()
	for i := range l.used {
		l.readSegment(&l.used[i])
	}
	released, _ := l.cells.Get(0)
	l.high = max(l.high, released)
	l.release(released)
}

// heads is the segments that are used, in the order of their numbers, as their heads alone tell of them.
func (l *Log) heads() []segment {
	var found []segment
	for i := range l.segs {
		at := l.place(i)
		b, _ := l.disk.Read(at)
		if number, tick, ok := takeHead(b); ok {
			found = append(found, segment{at, number, tick, 1})
		}
	}
	// Of like numbers the lower segment goes first: they stand so by now.
	slices.SortStableFunc(found, func(a, b segment) int { return cmp.Compare(a.number, b.number) })
	return found
}

// readSegment reads the records of a segment, up to its end.
func (l *Log) readSegment(s *segment) {
	l.high = max(l.high, s.high)
	for {
		rec, end, ok := l.next(*s)
		if !ok {
			break
		}
		l.recs = append(l.recs, rec)
		l.high = rec.Tick
		s.end = end
	}
	s.high = l.high
}

// next is the record that stands at a segment's end, and the end behind it; false, if there is none.
func (l *Log) next(s segment) (api.Rec, int, bool) {
	b, end := l.gather(s)
	tick, from, fault := octet.TakeKey(b, 0)
	if fault != api.OK || tick <= int64(l.high) || tick > api.MaxTick {
		return api.Rec{}, 0, false
	}
	return api.Rec{Tick: int(tick), Body: b[from:]}, end, true
}

// gather is the bytes of all parts that stand at a segment's end up to a last one, and the end behind it; none, if they are not good.
func (l *Log) gather(s segment) ([]byte, int) {
	var all []byte
	kind := byte(firstKind)
	for at := s.end; at < api.SegSectors; at++ {
		b, _ := l.disk.Read(s.at + at)
		p, good := look(b)
		if !good || p.kind != kind {
			return nil, 0
		}
		all = append(all, p.payload...)
		if p.last {
			return all, at + 1
		}
		kind = moreKind
	}
	return nil, 0
}
