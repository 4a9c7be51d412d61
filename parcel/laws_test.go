package parcel_test

import (
	"bytes"
	"slices"
	"testing"

	"grapevine/api"
	"grapevine/octet"
	"grapevine/parcel"
	"grapevine/span"
)

// dice are numbers that look like chance, the same ones each time.
type dice uint64

// roll is a number from 0 to n - 1.
func (d *dice) roll(n int) int {
	*d = *d*6364136223846793005 + 1442695040888963407
	return int(uint64(*d)>>31) % n
}

// near is a number at an edge, or not far from it.
func (d *dice) near(edges ...int) int { return edges[d.roll(len(edges))] + d.roll(3) - 1 }

// bytes is a row of up to so many.
func (d *dice) bytes(n int) []byte {
	b := make([]byte, d.roll(n+1))
	for i := range b {
		b[i] = byte(d.roll(256))
	}
	return b
}

// parcel is one that may be, with something in all fields; the ticks of a Tell's range are cut into pieces one behind the other.
func (d *dice) parcel() api.Parcel {
	p := api.Parcel{Kind: kinds[d.roll(len(kinds))], Pub: d.roll(api.MaxPubs), Sub: 1 + d.roll(api.MaxSubs), N: 1 + d.roll(1<<d.roll(31))}
	p.From = 1 + d.roll(1<<d.roll(40))
	at := p.From
	for range d.roll(60) {
		length := 1 + d.roll(1<<d.roll(20))
		is := api.Know(d.roll(4))
		switch {
		case is == api.Data && len(p.Items) < api.MaxItems:
			p.Items = append(p.Items, api.Item{Tick: at + d.roll(length), For: uint32(d.roll(1 << 32)), Body: d.bytes(40)})
		case is > api.Data && len(p.Spans) < api.MaxNews && (len(p.Spans) == 0 || p.Spans[len(p.Spans)-1].To < at-1 || p.Spans[len(p.Spans)-1].Is != is):
			p.Spans = append(p.Spans, api.Span{From: at, To: at + length - 1, Is: is})
		}
		at += length
	}
	p.To = min(at, api.MaxTick)
	return p
}

// spoil changes one thing of a parcel, which may well stay right.
func (d *dice) spoil(p *api.Parcel) {
	some := func(n int) int { return max(0, n-1-d.roll(2)) }
	switch d.roll(12) {
	case 0:
		p.Kind = api.Mail(d.near(0, 3, 7))
	case 1:
		p.Pub = d.near(0, api.MaxPubs)
	case 2:
		p.Sub = d.near(0, api.MaxSubs)
	case 3:
		p.N = d.near(0, api.MaxNumber)
	case 4:
		p.From = d.near(0, p.From, p.To, api.MaxTick)
	case 5:
		p.To = d.near(0, p.From, p.To, api.MaxTick)
	case 6:
		p.Spans = append(p.Spans, api.Span{From: d.near(p.From, p.To), To: d.near(p.From, p.To), Is: api.Know(d.roll(5))})
	case 7:
		if len(p.Spans) > 0 {
			p.Spans[some(len(p.Spans))] = api.Span{From: d.near(p.From, p.To), To: d.near(p.From, p.To), Is: api.Know(d.roll(5))}
		}
	case 8:
		if len(p.Items) > 0 {
			p.Items[some(len(p.Items))].Tick = d.near(p.From, p.To, p.Items[0].Tick)
		}
	case 9:
		if len(p.Items) > 0 {
			p.Items[some(len(p.Items))].Body = make([]byte, d.near(0, api.MaxRec)+1)
		}
	case 10:
		for range d.roll(10) {
			p.Items = append(p.Items, api.Item{Tick: p.To - 20 + 2*len(p.Items)})
		}
	case 11:
		if len(p.Spans) > 0 && len(p.Items) > 0 {
			s := p.Spans[d.roll(len(p.Spans))]
			p.Items[some(len(p.Items))].Tick = d.near(s.From, s.To)
		}
	}
}

// theWords is Check, said once more as the document says it.
func theWords(p api.Parcel) api.Errno {
	of := func(l ...api.Mail) bool { return slices.Contains(l, p.Kind) }
	from := func(n, low, high int) bool { return low <= n && n <= high }
	if !of(kinds...) {
		return api.ErrType
	}
	if !from(p.Pub, 0, api.MaxPubs-1) ||
		of(api.Ack, api.Join, api.Grant, api.Leave) && !(from(p.Sub, 1, api.MaxSubs) && from(p.N, 1, api.MaxNumber)) ||
		of(api.Ack, api.Grant) && !from(p.From, 0, api.MaxTick) ||
		of(api.Tell, api.Want) && !(from(p.From, 1, p.To) && p.To <= api.MaxTick) {
		return api.ErrArg
	}
	if !of(api.Tell) {
		return api.OK
	}
	if len(p.Spans) > api.MaxNews || len(p.Items) > api.MaxItems {
		return api.ErrLimit
	}
	for i, s := range p.Spans {
		isRight := s.Is == api.Silence || s.Is == api.Lost
		lies := from(s.From, p.From, s.To) && s.To <= p.To
		if !isRight || !lies || i > 0 && (s.From <= p.Spans[i-1].To || s.From == p.Spans[i-1].To+1 && s.Is == p.Spans[i-1].Is) {
			return api.ErrForm
		}
	}
	for i, item := range p.Items {
		inSpan := slices.ContainsFunc(p.Spans, func(s api.Span) bool { return from(item.Tick, s.From, s.To) })
		if !from(item.Tick, p.From, p.To) || inSpan || i > 0 && item.Tick <= p.Items[i-1].Tick {
			return api.ErrTick
		}
		if len(item.Body) > api.MaxRec {
			return api.ErrLimit
		}
	}
	return api.OK
}

// P13.1: parcels that may be, and others, against the document's words.
func TestCheckAgainstTheWords(t *testing.T) {
	seen := map[api.Errno]int{}
	for run := range 40000 {
		chance := dice(run)
		p := chance.parcel()
		for range chance.roll(4) {
			chance.spoil(&p)
		}
		want := theWords(p)
		seen[want]++
		if want != api.OK {
			wantFault(t, p, want)
			continue
		}
		wantRight(t, p)
		b := mustPut(t, p)
		if got, fault := parcel.Take(b); fault != api.OK || !same(got, parcel.Plain(p)) {
			t.Fatalf("Take of Put of %+v: %+v, error %d", p, got, fault)
		}
		if len(b) > api.MaxBody {
			t.Fatalf("%+v has %d bytes", p, len(b))
		}
	}
	for _, e := range []api.Errno{api.OK, api.ErrType, api.ErrArg, api.ErrLimit, api.ErrForm, api.ErrTick} {
		if seen[e] < 100 {
			t.Fatalf("error %d came up %d times", e, seen[e])
		}
	}
}

// unchecked is the bytes that a parcel would have, may it be or not; false, if its numbers have none.
func unchecked(p api.Parcel) ([]byte, bool) {
	b := []byte{byte(p.Kind)}
	right := true
	put := func(n int) {
		right = right && n >= 0
		b = append(b, octet.Uint(uint64(n))...)
	}
	put(p.Pub)
	if slices.Contains([]api.Mail{api.Ack, api.Join, api.Grant, api.Leave}, p.Kind) {
		put(p.Sub)
		put(p.N)
	}
	if slices.Contains([]api.Mail{api.Tell, api.Want, api.Ack, api.Grant}, p.Kind) {
		put(p.From)
	}
	if slices.Contains([]api.Mail{api.Tell, api.Want}, p.Kind) {
		put(p.To)
	}
	if p.Kind == api.Tell {
		l, fault := span.Put(p.Spans)
		right = right && fault == api.OK
		b = append(b, l...)
		put(len(p.Items))
		for _, item := range p.Items {
			put(item.Tick)
			put(int(item.For))
			put(len(item.Body))
			b = append(b, item.Body...)
		}
	}
	return b, right
}

// tooGreat: does a plain parcel have more of something than bytes may say?
func tooGreat(p api.Parcel) bool {
	long := func(i api.Item) bool { return i.Tick > 1<<40 || len(i.Body) > api.MaxRec }
	return p.From > 1<<40 || p.To > 1<<40 || len(p.Items) > api.MaxItems || slices.ContainsFunc(p.Items, long)
}

// P13.3: bytes of parcels that may not be tell Check's error, but for what the bytes themselves may not say.
func TestTakeOfWhatMayNotBe(t *testing.T) {
	seen := map[api.Errno]int{}
	for run := range 40000 {
		chance := dice(run + 50000)
		p := chance.parcel()
		for range 1 + chance.roll(2) {
			chance.spoil(&p)
		}
		b, is := unchecked(p)
		if !is {
			continue
		}
		want := theWords(p)
		if tooGreat(parcel.Plain(p)) {
			want = api.ErrLimit
		}
		seen[want]++
		if want != api.OK {
			noTake(t, b, want)
		} else if got, fault := parcel.Take(b); fault != api.OK || !same(got, parcel.Plain(p)) {
			t.Fatalf("Take of % x: %+v, error %d", b, got, fault)
		}
	}
	for _, e := range []api.Errno{api.OK, api.ErrType, api.ErrArg, api.ErrLimit, api.ErrForm, api.ErrTick} {
		if seen[e] < 50 {
			t.Fatalf("error %d came up %d times", e, seen[e])
		}
	}
}

// P13.4: of spoilt bytes none is taken for a parcel whose bytes are others; cut ones are too short.
func TestSpoiltBytes(t *testing.T) {
	for run := range 20000 {
		chance := dice(run + 100000)
		b := mustPut(t, chance.parcel())
		noTake(t, b[:chance.roll(len(b))], api.ErrShort)
		for range 1 + chance.roll(3) {
			at := chance.roll(len(b))
			switch chance.roll(3) {
			case 0:
				b[at] ^= 1 << chance.roll(8)
			case 1:
				b = slices.Delete(b, at, at+1)
			case 2:
				b = slices.Insert(b, at, byte(chance.roll(256)))
			}
			if len(b) == 0 {
				break
			}
		}
		before := bytes.Clone(b)
		putAgain(t, b)
		if !bytes.Equal(b, before) {
			t.Fatal("bytes that were handed in are changed")
		}
	}
}

// P1: no bytes make it panic.
func FuzzAnyBytes(f *testing.F) {
	for _, kind := range kinds {
		b, _ := parcel.Put(right(kind))
		f.Add(b)
	}
	f.Fuzz(func(t *testing.T, b []byte) { putAgain(t, b) })
}
