package stream_test

import (
	"bytes"
	"math"
	"slices"
	"testing"

	"grapevine/api"
	"grapevine/parcel"
	"grapevine/stream"
)

// dice are numbers that look like chance, the same ones each time.
type dice uint64

// roll is a number from 0 to n - 1.
func (d *dice) roll(n int) int {
	*d = *d*6364136223846793005 + 1442695040888963407
	return int(uint64(*d)>>33) % n
}

// end is the last tick of which chance tells; all behind it stay unknown.
const end = 160

// body is the one that an item of a tick has, whoever tells of it.
func body(tick int) []byte { return bytes.Repeat([]byte{byte(tick)}, tick%5) }

// tell is one that may be: runs of ticks of which the same is told, or nothing; which spans it may have, calm says: 0 none, 1 silent ones, 2 lost ones, too.
func (d *dice) tell(calm int) api.Parcel {
	p := api.Parcel{Kind: api.Tell, From: 1 + d.roll(end)}
	p.To = min(end, p.From+d.roll(40))
	for t := p.From; t <= p.To; {
		long := min(t+d.roll(6), p.To)
		switch k := d.roll(6); {
		case k == 0 && calm > 0:
			p.Spans = lay(p.Spans, quiet(t, long))
		case k == 1 && calm > 1:
			p.Spans = lay(p.Spans, lost(t, long))
		case k >= 3 && len(p.Items) < api.MaxItems:
			p.Items = append(p.Items, api.Item{Tick: t, For: uint32(d.roll(8)), Body: body(t)})
			long = t
		}
		t = long + 1
	}
	return p
}

// lay is spans with one more, as few as can be.
func lay(l []api.Span, s api.Span) []api.Span {
	if last := len(l) - 1; last >= 0 && l[last].Is == s.Is && l[last].To == s.From-1 {
		l[last].To = s.To
		return l
	}
	return append(l, s)
}

// twin is a stream once more, tick by tick, as the document says it.
type twin struct {
	know  [end + 2]api.Know
	items [end + 2]api.Item
}

func (w *twin) learn(p api.Parcel) bool {
	ahead := *w
	for _, s := range p.Spans {
		for t := s.From; t <= s.To; t++ {
			w.know[t] = max(w.know[t], s.Is)
		}
	}
	for _, i := range p.Items {
		switch w.know[i.Tick] {
		case api.Unknown:
			w.know[i.Tick], w.items[i.Tick] = api.Data, i
		case api.Data:
			w.items[i.Tick].For |= i.For
		}
	}
	for w.count() > api.MaxKeep {
		w.know[slices.Index(w.know[:], api.Data)] = api.Unknown
	}
	return !w.same(&ahead)
}

func (w *twin) count() int {
	n := 0
	for _, k := range w.know {
		if k == api.Data {
			n++
		}
	}
	return n
}

func (w *twin) same(other *twin) bool {
	for t, k := range w.know {
		if k != other.know[t] || k == api.Data && w.items[t].For != other.items[t].For {
			return false
		}
	}
	return true
}

func (w *twin) lose(upTo int) {
	for t := 1; t <= upTo; t++ {
		if w.know[t] != api.Silence {
			w.know[t] = api.Lost
		}
	}
}

func (w *twin) spans() []api.Span {
	var l []api.Span
	for t, k := range w.know {
		if k != api.Unknown {
			l = lay(l, api.Span{From: t, To: t, Is: k})
		}
	}
	return l
}

// tells is what is told, with a Tell's end looked for tick by tick.
func (w *twin) tells(pub, from, to int, links uint32) []api.Parcel {
	var l []api.Parcel
	p := api.Parcel{Kind: api.Tell, Pub: pub, From: from}
	some := false
	for t := from; t <= to; t++ {
		next := p
		next.Spans, next.Items = slices.Clone(p.Spans), slices.Clone(p.Items)
		switch k := w.know[t]; {
		case k == api.Data && w.items[t].For&links != 0:
			next.Items = append(next.Items, w.items[t])
		case k == api.Data:
			next.Spans = lay(next.Spans, quiet(t, t))
		case k != api.Unknown:
			next.Spans = lay(next.Spans, api.Span{From: t, To: t, Is: k})
		}
		some = some || w.know[t] != api.Unknown
		if len(next.Items) > api.MaxItems || len(next.Spans) > api.MaxNews {
			p.To = t - 1
			l = append(l, p)
			p = api.Parcel{Kind: api.Tell, Pub: pub, From: t}
			t--
			continue
		}
		p = next
	}
	p.To = to
	if !some {
		return nil
	}
	return append(l, p)
}

func (w *twin) next(t, id int) api.Step {
	for t++; t <= end+1; t++ {
		switch w.know[t] {
		case api.Data:
			if w.items[t].For>>(id-1)&1 == 1 {
				return handed(w.items[t])
			}
		case api.Lost:
			to := t
			for w.know[to+1] == api.Lost {
				to++
			}
			return api.Step{Is: api.Lost, From: t, To: to}
		case api.Unknown:
			return nothing(t - 1)
		}
	}
	return nothing(t)
}

// hold holds all that a stream tells against it.
func (w *twin) hold(t *testing.T, s *stream.Stream, d *dice) {
	t.Helper()
	wantMap(t, s, w.spans()...)
	for tick := 1; tick <= end; tick++ {
		if w.know[tick] != api.Data {
			wantNoItem(t, s, tick)
			continue
		}
		wantItem(t, s, w.items[tick])
	}
	for range 3 {
		from, links := 1+d.roll(end), uint32(d.roll(8))
		to := from + d.roll(end+1-from)
		wantTell(t, s, 1, from, to, links, w.tells(1, from, to, links)...)
		at, id := d.roll(end), 1+d.roll(4)
		wantNext(t, s, at, id, w.next(at, id))
	}
}

// P15.1 to P15.4, by a second reading.
func TestTwin(t *testing.T) {
	forgot, cuts := 0, 0
	for seed := range 60 {
		d := dice(seed)
		s, w := stream.New(), &twin{}
		for range 60 {
			if d.roll(40) == 0 {
				upTo := d.roll(end + 1)
				wantErr(t, "Lose", s.Lose(upTo), api.OK)
				w.lose(upTo)
			} else {
				p := d.tell(d.roll(1 + seed%3))
				if news, want := learn(t, s, p), w.learn(p); news != want {
					t.Fatalf("seed %d: news %v, wanted %v", seed, news, want)
				}
			}
			w.hold(t, s, &d)
			if w.count() == api.MaxKeep {
				forgot++
			}
			if len(w.tells(0, 1, end, 7)) > 2 {
				cuts++
			}
		}
	}
	if forgot < 50 || cuts < 50 {
		t.Fatalf("%d streams were full, of %d more than two Tells were told: too few", forgot, cuts)
	}
}

// P15.5: a stream without knowledge that learns what is told knows just what is known there, but for items that lead nowhere.
func TestToldIsLearnt(t *testing.T) {
	for seed := range 400 {
		d := dice(seed)
		w := &twin{}
		s := stream.New()
		for range 1 + d.roll(12) {
			p := d.tell(d.roll(3))
			learn(t, s, p)
			w.learn(p)
		}
		from, links := 1+d.roll(end), uint32(d.roll(8))
		to := from + d.roll(end+1-from)
		l, fault := s.Tell(d.roll(3), from, to, links)
		wantErr(t, "Tell", fault, api.OK)
		other := stream.New()
		for _, p := range l {
			wantErr(t, "Check", parcel.Check(p), api.OK)
			if !learn(t, other, p) && len(p.Spans)+len(p.Items) > 0 {
				t.Fatalf("seed %d: a Tell that is no news", seed)
			}
		}
		for tick := 1; tick <= end; tick++ {
			if tick < from || tick > to {
				w.know[tick] = api.Unknown
			} else if w.know[tick] == api.Data && w.items[tick].For&links == 0 {
				w.know[tick] = api.Silence
			}
		}
		w.hold(t, other, &d)
		for i, p := range l {
			if i == 0 && p.From != from || i > 0 && p.From != l[i-1].To+1 || i == len(l)-1 && p.To != to {
				t.Fatalf("seed %d: ranges of %v", seed, l)
			}
		}
	}
}

// P15.6: neither the order in which what is told is learnt plays a part, nor how often.
func TestAnyOrder(t *testing.T) {
	for seed := range 300 {
		d := dice(seed)
		var tells []api.Parcel
		items := 0
		for range 1 + d.roll(12) {
			p := d.tell(d.roll(3))
			if items += len(p.Items); items <= api.MaxKeep {
				tells = append(tells, p)
			}
		}
		w := &twin{}
		for _, p := range tells {
			w.learn(p)
		}
		other := stream.New()
		for range 3 * len(tells) {
			learn(t, other, tells[d.roll(len(tells))])
		}
		for i := range tells {
			learn(t, other, tells[len(tells)-1-i])
		}
		w.hold(t, other, &d)
		for _, p := range tells {
			if learn(t, other, p) {
				t.Fatalf("seed %d: what is known is news", seed)
			}
		}
	}
}

// P15.7: Next of Next goes through all items for one, in order, and tells all ticks that are lost.
func TestNextOfNext(t *testing.T) {
	for seed := range 300 {
		d := dice(seed)
		w := &twin{}
		s := stream.New()
		first := told(1, end, []api.Span{quiet(1, d.roll(end))}, api.Item{Tick: end, For: 1, Body: body(end)})
		if first.Spans[0].To == 0 {
			first.Spans = nil
		}
		for _, p := range []api.Parcel{first, d.tell(d.roll(3)), d.tell(d.roll(3)), d.tell(d.roll(3))} {
			learn(t, s, p)
			w.learn(p)
		}
		id := 1 + d.roll(3)
		at := 0
		for {
			step, fault := s.Next(at, id)
			wantErr(t, "Next", fault, api.OK)
			if step.Is != api.Unknown && step.From <= at || step.To < at {
				t.Fatalf("seed %d: %v behind %d", seed, step, at)
			}
			for tick := at + 1; tick < step.From || step.Is == api.Unknown && tick <= step.To; tick++ {
				if k := w.know[tick]; k != api.Silence && (k != api.Data || w.items[tick].For>>(id-1)&1 == 1) {
					t.Fatalf("seed %d: %v passes tick %d", seed, step, tick)
				}
			}
			for tick := step.From; step.Is == api.Lost && tick <= step.To; tick++ {
				if w.know[tick] != api.Lost {
					t.Fatalf("seed %d: tick %d is not lost", seed, tick)
				}
			}
			if at = step.To; step.Is == api.Unknown {
				break
			}
		}
		if w.know[at+1] != api.Unknown {
			t.Fatalf("seed %d: it ends at %d", seed, at)
		}
	}
}

// P1: whatever bytes say, what they are learnt as is told again.
func FuzzLearn(f *testing.F) {
	d := dice(1)
	for range 20 {
		b, _ := parcel.Put(d.tell(d.roll(3)))
		f.Add(b, 3, 90, uint32(3))
	}
	f.Add([]byte(nil), math.MaxInt, math.MinInt, uint32(math.MaxUint32))
	f.Fuzz(func(t *testing.T, b []byte, at, id int, links uint32) {
		p, fault := parcel.Take(b)
		s := stream.New()
		news, learnt := s.Learn(p)
		if fault != api.OK && learnt == api.OK || learnt != api.OK && (news || len(s.Map()) > 0) {
			t.Fatalf("error %d, learnt with %d: %v", fault, learnt, s.Map())
		}
		s.Next(at, id)
		s.Item(at)
		tells, fault := s.Tell(id, at, at, links)
		if fault != api.OK && tells != nil {
			t.Fatal("told beside an error")
		}
		s.Lose(at)
		if step, fault := s.Next(0, 1); fault != api.OK || at >= 1 && at <= api.MaxTick && step.Is == api.Unknown && step.To < at {
			t.Fatalf("lost up to %d: %v", at, step)
		}
	})
}
