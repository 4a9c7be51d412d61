package judge_test

import (
	"slices"
	"testing"

	"grapevine/api"
	"grapevine/event"
	"grapevine/judge"
	"grapevine/pred"
)

// twin is a second reading of the chapter: it keeps all that it was told, and looks through all of it at each mark.
type twin struct {
	topo  api.Topo
	marks []api.Mark // those that may be
	told  []map[int]string
	tried [][]string
	subs  []sub
}

type sub struct {
	asked, fresh, open          bool
	floor, cursor, acked, mayBe int
	cursors                     []int // all that it ever had
	since                       []int // those since it was fresh
}

func newTwin(topo api.Topo) *twin {
	w := &twin{topo: topo, subs: make([]sub, len(topo.Subs))}
	for range topo.Pubs {
		w.told, w.tried = append(w.told, map[int]string{}), append(w.tried, nil)
	}
	return w
}

func bytesOf(e api.Event) string {
	b, _ := event.Put(e)
	return string(b)
}

// isOwn: is what these bytes stand for one of a subscription's own?
func (w *twin) isOwn(id int, body string) bool {
	e, _, fault := event.Take([]byte(body), 0)
	is, _ := pred.Eval(w.topo.Subs[id-1].Terms, e)
	return is && fault == api.OK
}

// own are the ticks of its own events that were told, rising.
func (w *twin) own(id int) []int {
	var l []int
	for tick, body := range w.told[w.topo.Subs[id-1].Pub] {
		if w.isOwn(id, body) {
			l = append(l, tick)
		}
	}
	slices.Sort(l)
	return l
}

func (w *twin) passes(id, from, to int) bool {
	return slices.ContainsFunc(w.own(id), func(tick int) bool { return from <= tick && tick <= to })
}

func (w *twin) greatest(pub int) int {
	most := 0
	for tick := range w.told[pub] {
		most = max(most, tick)
	}
	return most
}

// released is the greatest tick of a publisher's marks Released.
func (w *twin) released(pub int) int {
	most := 0
	for _, m := range w.marks {
		if m.Is == api.Released && m.A == pub {
			most = max(most, m.From)
		}
	}
	return most
}

// hear is the error of a mark; if it has none, it counts from now on.
func (w *twin) hear(m api.Mark) api.Errno {
	if m.Is < api.Told || m.Is > api.Released {
		return api.ErrType
	}
	var fault api.Errno
	if m.Is == api.Told || m.Is == api.Tried || m.Is == api.Released {
		if m.A < 0 || m.A >= len(w.topo.Pubs) {
			return api.ErrArg
		}
		fault = w.write(m)
	} else {
		if m.A < 1 || m.A > len(w.topo.Subs) {
			return api.ErrArg
		}
		fault = w.read(m, &w.subs[m.A-1])
	}
	if fault == api.OK {
		w.marks = append(w.marks, m)
	}
	return fault
}

func (w *twin) write(m api.Mark) api.Errno {
	if m.Is == api.Released {
		if m.From < 0 || m.From > top {
			return api.ErrTick
		}
		return api.OK
	}
	if event.Fits(w.topo.Schema, m.Event) != api.OK {
		return api.ErrForm
	}
	if m.Is == api.Tried {
		w.tried[m.A] = append(w.tried[m.A], bytesOf(m.Event))
		return api.OK
	}
	if m.From < 1 || m.From > top || m.From <= w.greatest(m.A) {
		return api.ErrTick
	}
	for i, s := range w.subs {
		if w.topo.Subs[i].Pub == m.A && slices.ContainsFunc(s.cursors, func(at int) bool { return at >= m.From }) {
			return api.ErrTick
		}
	}
	w.told[m.A][m.From] = bytesOf(m.Event)
	return api.OK
}

func (s *sub) at(tick int) {
	s.cursor = tick
	s.cursors, s.since = append(s.cursors, tick), append(s.since, tick)
}

func (w *twin) read(m api.Mark, s *sub) api.Errno {
	pub := w.topo.Subs[m.A-1].Pub
	switch m.Is {
	case api.Asked:
		if s.open {
			return api.ErrBusy
		}
		s.asked, s.fresh, s.floor = true, true, w.greatest(pub)
	case api.Ended:
		s.asked, s.open = false, false
	case api.Closed:
		if !s.open {
			return api.ErrBusy
		}
		s.open = false
	case api.Began:
		return w.begin(m, s)
	case api.Acked, api.AckTried:
		if !s.open {
			return api.ErrBusy
		}
		if m.From < s.acked || m.From > s.cursor {
			return api.ErrTick
		}
		if m.Is == api.AckTried {
			s.mayBe = max(s.mayBe, m.From)
		} else {
			s.acked, s.mayBe = m.From, 0
		}
	default:
		return w.hand(m, s)
	}
	return api.OK
}

func (w *twin) begin(m api.Mark, s *sub) api.Errno {
	if !s.asked {
		return api.ErrBusy
	}
	if s.fresh {
		if m.From < s.floor || m.From > top {
			return api.ErrTick
		}
		s.since = nil
	} else {
		if m.From < s.acked || m.From > slices.Max(s.since) {
			return api.ErrTick
		}
		from := s.acked
		if s.mayBe > from && s.mayBe <= m.From {
			from = s.mayBe
		}
		if w.passes(m.A, from+1, m.From) {
			return api.ErrGone
		}
	}
	s.open, s.fresh, s.acked, s.mayBe = true, false, m.From, 0
	s.at(m.From)
	return api.OK
}

func (w *twin) hand(m api.Mark, s *sub) api.Errno {
	pub, i := w.topo.Subs[m.A-1].Pub, -1 // which one of those that were tried it is
	if !s.open {
		return api.ErrBusy
	}
	if m.From <= s.cursor || m.From > top {
		return api.ErrTick
	}
	switch m.Is {
	case api.Quiet:
		if w.passes(m.A, s.cursor+1, m.From) {
			return api.ErrGone
		}
		s.at(m.From)
		return api.OK
	case api.Gap:
		if m.To < m.From || m.To > top {
			return api.ErrTick
		}
		if m.To > w.released(pub) {
			return api.ErrLimit
		}
	case api.Got:
		body := bytesOf(m.Event)
		if is, known := w.told[pub][m.From]; known {
			if is != body {
				return api.ErrForm
			}
		} else if i = slices.Index(w.tried[pub], body); i < 0 {
			return api.ErrForm
		}
		if !w.isOwn(m.A, body) {
			return api.ErrForm
		}
	}
	if w.passes(m.A, s.cursor+1, m.From-1) {
		return api.ErrGone
	}
	if i >= 0 {
		w.told[pub][m.From] = w.tried[pub][i]
		w.tried[pub] = slices.Delete(w.tried[pub], i, i+1)
	}
	if m.Is == api.Got {
		m.To = m.From
	}
	s.at(m.To)
	return api.OK
}

// note is one of those that there are, the ones more often that others wait for.
func (d *dice) note() api.Note {
	each := [...]int{api.Told: 6, api.Tried: 2, api.Asked: 2, api.Ended: 1, api.Began: 6, api.Closed: 2, api.Got: 12, api.Quiet: 4, api.Gap: 5, api.Acked: 2, api.AckTried: 3, api.Released: 2}
	n, all := 0, 0
	for _, x := range each {
		all += x
	}
	for at := d.roll(all); at >= each[n]; n++ {
		at -= each[n]
	}
	return api.Note(n)
}

// mark is one that mostly may be, or nearly.
func (d *dice) mark(w *twin) api.Mark {
	m := api.Mark{Is: d.note(), A: d.roll(len(w.topo.Pubs)), From: d.roll(4)}
	if d.roll(300) == 0 {
		m.Is, m.A = api.Note(d.roll(16)-1), d.roll(12)-2
	}
	if m.Is == api.Told || m.Is == api.Tried || m.Is == api.Released {
		m.Event = priced(int64(d.roll(3) * 4))
		if d.roll(40) == 0 {
			m.Event.Attrs[0].Name = "b"
		}
		if m.A >= 0 && m.A < len(w.topo.Pubs) {
			m.From += w.greatest(m.A)
		}
		return m
	}
	m.A = 1 + d.roll(len(w.topo.Subs))
	s := w.subs[m.A-1]
	switch often := d.roll(3) > 0; {
	case often && !s.asked:
		m.Is = api.Asked
	case often && !s.open:
		m.Is = api.Began
	}
	switch m.Is {
	case api.Began:
		m.From = max(s.acked, s.floor) + d.roll(5) - 1
	case api.Acked, api.AckTried:
		m.From = s.cursor + 1 - d.roll(5)
	default:
		m.From += s.cursor
		m.To = m.From + d.roll(6) - 1
	}
	if m.Is == api.Got {
		w.likely(&m, d)
	}
	return m
}

// stretch has a number now and then be at an end of what numbers may be, or ticks.
func (d *dice) stretch(n *int) {
	if d.roll(60) == 0 {
		*n = []int{-1 << 63, -1, 0, top, top + 1, 1<<63 - 1}[d.roll(6)]
	}
}

// likely has a Got be mostly of an event that was told, or tried.
func (w *twin) likely(m *api.Mark, d *dice) {
	pub := w.topo.Subs[m.A-1].Pub
	m.To = 0
	body := ""
	own, from := w.own(m.A), w.subs[m.A-1].cursor
	own = slices.DeleteFunc(own, func(tick int) bool { return tick <= from })
	if tried := w.tried[pub]; len(tried) > 0 && d.roll(3) == 0 {
		body = tried[d.roll(len(tried))]
	} else if len(own) > 0 {
		m.From = own[d.roll(min(2, len(own)))]
		body = w.told[pub][m.From]
	}
	m.Event, _, _ = event.Take([]byte(body), 0)
	if d.roll(20) == 0 {
		m.Event.Content = []byte("another one")
	}
}

// P18.1, P18.2, P18.3: traces that may be, and ones that may not be from some mark on, as a second reading tells; of those that may be each beginning may be.
func TestTwin(t *testing.T) {
	traces := 1500
	if testing.Short() {
		traces = 300
	}
	seen := map[api.Note]map[api.Errno]int{}
	owed := 0
	for seed := range traces {
		d := dice(seed)
		topo := alone(1+d.roll(2), "*", "a>5", "a<3", "#")
		for i := range topo.Subs {
			topo.Subs[i].Pub = d.roll(len(topo.Pubs))
		}
		w := newTwin(topo)
		for range 120 {
			m := d.mark(w)
			d.stretch(&m.From)
			d.stretch(&m.To)
			ahead := slices.Clone(w.marks)
			want := w.hear(m)
			if seen[m.Is] == nil {
				seen[m.Is] = map[api.Errno]int{}
			}
			seen[m.Is][want]++
			if n, fault := judge.Judge(topo, then(ahead, m)); fault != want || n != len(w.marks) {
				t.Fatalf("seed %d: %v behind %v: %d and error %d, wanted %d and error %d", seed, m, ahead, n, fault, len(w.marks), want)
			}
			if d.roll(10) == 0 {
				owed += holdOwed(t, w)
			}
		}
	}
	for is, want := range map[api.Note][]api.Errno{
		api.Told: {api.OK, api.ErrForm, api.ErrTick}, api.Tried: {api.OK, api.ErrForm}, api.Released: {api.OK}, api.Asked: {api.OK, api.ErrBusy}, api.Ended: {api.OK}, api.Closed: {api.OK, api.ErrBusy},
		api.Began: {api.OK, api.ErrBusy, api.ErrTick, api.ErrGone}, api.Got: {api.OK, api.ErrBusy, api.ErrTick, api.ErrForm, api.ErrGone}, api.Quiet: {api.OK, api.ErrBusy, api.ErrTick, api.ErrGone},
		api.Gap: {api.OK, api.ErrBusy, api.ErrTick, api.ErrLimit, api.ErrGone}, api.Acked: {api.OK, api.ErrBusy, api.ErrTick}, api.AckTried: {api.OK, api.ErrBusy, api.ErrTick},
	} {
		for _, fault := range want {
			if seen[is][fault] == 0 {
				t.Errorf("note %d never had error %d: %v", is, fault, seen[is])
			}
		}
	}
	if owed < traces {
		t.Errorf("%d were owed, too few", owed)
	}
}

// holdOwed holds what is owed to each subscription against the twin; how many events that is.
func holdOwed(t *testing.T, w *twin) int {
	t.Helper()
	n := 0
	for i, s := range w.subs {
		got, is := judge.Owed(w.topo, w.marks, i+1)
		want := slices.DeleteFunc(w.own(i+1), func(tick int) bool { return tick <= s.cursor || !s.open })
		if is != s.open || !slices.Equal(got, want) {
			t.Fatalf("owed to %d: %v, %v, wanted %v of %v", i+1, got, is, want, w.marks)
		}
		n += len(want)
	}
	return n
}
