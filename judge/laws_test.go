package judge_test

import (
	"slices"
	"testing"

	"grapevine/api"
	"grapevine/event"
	"grapevine/judge"
	"grapevine/overlay"
	"grapevine/pred"
)

// topo is an overlay in which ways lead everywhere.
func (d *dice) topo() api.Topo {
	t := alone(1+d.roll(api.MaxPubs), "*")
	t.Brokers = 1 + d.roll(api.MaxBrokers)
	var at [api.MaxBrokers]int // where the way to each goes on
	for i := 1; i < t.Brokers; i++ {
		at[i] = d.roll(i)
	}
	for i := range t.Brokers {
		for j := i + 1; j < t.Brokers; j++ {
			if at[j] == i || d.roll(3) == 0 {
				t.Lines = append(t.Lines, [2]int{i, j})
			}
		}
	}
	for i := range t.Pubs {
		t.Pubs[i] = d.roll(t.Brokers)
	}
	texts := []string{"*", "*", "a<3", "a>5", "!?a", "#"}
	for range d.roll(api.MaxHosted) {
		t.Subs = append(t.Subs, api.Sub{Pub: d.roll(len(t.Pubs)), Terms: terms(texts[d.roll(len(texts))])})
	}
	for i := range t.Subs {
		t.Subs[i].Broker = d.roll(t.Brokers)
	}
	return t
}

// event is one that is told from others by its number.
func (d *dice) event(n int) api.Event {
	e := api.Event{Content: []byte{byte(n), byte(n >> 8)}}
	if d.roll(5) > 0 {
		e.Attrs = priced(int64(d.roll(9))).Attrs
	}
	return e
}

// act is one that may come in an overlay.
func (d *dice) act(t api.Topo, n int) api.Act {
	sub, at := 1+d.roll(len(t.Subs)), d.roll(t.Brokers)
	switch x := d.roll(200); {
	case x < 34:
		return api.Act{Do: api.Publish, A: d.roll(len(t.Pubs)), Event: d.event(n)}
	case x < 44:
		return api.Act{Do: api.Subscribe, A: sub}
	case x < 46:
		return api.Act{Do: api.Unsubscribe, A: sub}
	case x < 60:
		return api.Act{Do: api.Connect, A: sub}
	case x < 62:
		return api.Act{Do: api.Disconnect, A: sub}
	case x < 90:
		return api.Act{Do: api.Deliver, A: sub, N: d.roll(6)}
	case x < 108:
		return api.Act{Do: api.AckUp, A: sub, N: d.roll(4) * d.roll(3)}
	case x < 120:
		return api.Act{Do: api.TickOne, A: at}
	case x < 140:
		return api.Act{Do: api.Wait, N: d.roll(4)}
	case x < 190:
		return api.Act{Do: api.Lift, A: at, B: d.roll(4)}
	case x < 193:
		return api.Act{Do: api.Crash, A: at, Fates: []int{d.roll(99), d.roll(99), d.roll(99)}}
	case x < 196:
		return api.Act{Do: api.Trip, A: at, N: 1 + d.roll(12)}
	case x < 198:
		return api.Act{Do: api.Force, A: d.roll(len(t.Pubs)), N: d.roll(n + 1)}
	}
	return api.Act{Do: api.Calm, N: 1}
}

// play has an overlay go through what may come; frames that are lifted come at once, late, twice, spoilt or not at all.
func play(t *testing.T, d *dice, topo api.Topo, acts int, forces bool) *overlay.Overlay {
	t.Helper()
	o, fault := overlay.New(topo)
	if fault != api.OK {
		t.Fatal("New", fault)
	}
	air := 0
	for i := range acts {
		a := d.act(topo, i)
		if a.Do == api.Force && !forces {
			continue
		}
		fault := o.Do(a)
		if a.Do == api.Calm {
			air = 0
		}
		if a.Do == api.Lift && fault == api.OK {
			air++
		}
		for n := min(air, d.roll(4)); n > 0 && air > 0; n-- {
			at := d.roll(air)
			if d.roll(12) == 0 {
				o.Do(api.Act{Do: api.Spoil, N: at, A: d.roll(20), B: 1 + d.roll(255)})
			}
			o.Do(api.Act{Do: api.Land, N: at})
			if d.roll(3) > 0 {
				o.Do(api.Act{Do: api.Drop, N: at})
				air--
			}
		}
	}
	return o
}

// settle has a calm, and each subscription that is on be handed all; which ones those are.
func settle(t *testing.T, o *overlay.Overlay, topo api.Topo) []int {
	t.Helper()
	var l []int
	o.Do(api.Act{Do: api.Calm, N: 12})
	for id := 1; id <= len(topo.Subs); id++ {
		if on, _ := o.State(id); !on {
			continue
		}
		l = append(l, id)
		for i, a := range []api.Act{{Do: api.Connect, A: id}, {Do: api.Deliver, A: id, N: 16}, {Do: api.Deliver, A: id, N: 16}, {Do: api.Deliver, A: id, N: 16}, {Do: api.Deliver, A: id, N: 16}, {Do: api.Deliver, A: id, N: 16}} {
			if fault := o.Do(a); fault != api.OK {
				t.Fatalf("act %d of subscription %d: error %d", i, id, fault)
			}
		}
	}
	return l
}

// G1 to G4: what an overlay tells may be, whatever happens, and behind a calm nothing is owed.
func TestOverlays(t *testing.T) {
	worlds := 150
	if testing.Short() {
		worlds = 25
	}
	notes := map[api.Note]int{}
	for seed := range worlds {
		d := dice(seed)
		topo := d.topo()
		o := play(t, &d, topo, 500, false)
		on := settle(t, o, topo)
		l := o.Trace()
		wantAll(t, topo, l...)
		for _, id := range on {
			wantOwed(t, topo, l, id)
		}
		holdConnections(t, topo, l)
		for _, m := range l {
			notes[m.Is]++
		}
	}
	for is := api.Told; is < api.Released; is++ {
		if is != api.Gap && notes[is] == 0 {
			t.Errorf("note %d did not come", is)
		}
	}
}

// G1: with force, too; but one that begins behind what was told as lost, and not acked, may be refused there: a broker acks that, once the last item is.
func TestOverlaysForced(t *testing.T) {
	worlds := 150
	if testing.Short() {
		worlds = 25
	}
	gaps, refused := 0, 0
	for seed := range worlds {
		d := dice(seed)
		topo := d.topo()
		o := play(t, &d, topo, 500, true)
		settle(t, o, topo)
		l := o.Trace()
		n, fault := judge.Judge(topo, l)
		if fault != api.OK {
			refused++
			lost := slices.ContainsFunc(l[:n], func(m api.Mark) bool { return m.Is == api.Gap && m.A == l[n].A && m.To <= l[n].From })
			if l[n].Is != api.Began || fault != api.ErrGone || !lost {
				t.Fatalf("seed %d: %v, error %d", seed, l[n], fault)
			}
		}
		holdConnections(t, topo, l[:n])
		for _, m := range l {
			if m.Is == api.Gap {
				gaps++
			}
		}
	}
	if gaps < worlds/4 || refused > worlds/10 {
		t.Errorf("%d gaps, %d refused", gaps, refused)
	}
}

// P18.3: of a trace that may be each beginning may be.
func TestBeginnings(t *testing.T) {
	for seed := range 12 {
		d := dice(seed)
		topo := d.topo()
		o := play(t, &d, topo, 300, false)
		settle(t, o, topo)
		l := o.Trace()
		for n := range l {
			wantAll(t, topo, l[:n]...)
		}
	}
}

// holdConnections: P18.4: what a subscription got between two times that it began has rising ticks, is its own, and was told or tried; nothing of its own that was told was passed, but what was told as lost.
func holdConnections(t *testing.T, topo api.Topo, l []api.Mark) {
	t.Helper()
	for i, s := range topo.Subs {
		told, tried, at := map[int]string{}, map[string]int{}, 0
		for n, m := range l {
			switch {
			case m.Is == api.Told && m.A == s.Pub:
				told[m.From] = bytesOf(m.Event)
			case m.Is == api.Tried && m.A == s.Pub:
				tried[bytesOf(m.Event)]++
			}
			if m.A != i+1 || m.Is != api.Began && m.Is != api.Got && m.Is != api.Quiet && m.Is != api.Gap {
				continue
			}
			passed := m.From - 1
			switch m.Is {
			case api.Began:
				at = m.From
				continue
			case api.Quiet:
				passed = m.From
			case api.Got:
				body := bytesOf(m.Event)
				is, _ := pred.Eval(s.Terms, m.Event)
				if !is || m.From <= at || told[m.From] != body && tried[body] == 0 {
					t.Fatalf("mark %d: subscription %d got %v", n, i+1, m)
				}
			}
			for tick, body := range told {
				e, _, _ := event.Take([]byte(body), 0)
				if is, _ := pred.Eval(s.Terms, e); is && at < tick && tick <= passed {
					t.Fatalf("mark %d: subscription %d passes %d", n, i+1, tick)
				}
			}
			at = max(m.From, m.To)
		}
	}
}

// P18.4: a trace in which something was handed twice, or passed over, or was another one, may not be.
func TestTampered(t *testing.T) {
	tried := 0
	for seed := range 20 {
		d := dice(seed)
		topo := d.topo()
		o := play(t, &d, topo, 400, false)
		settle(t, o, topo)
		l := o.Trace()
		for n, m := range l {
			if m.Is != api.Got || d.roll(3) > 0 {
				continue
			}
			tried++
			wantLast(t, topo, api.ErrTick, then(l[:n+1], m)...)
			other := m
			other.Event.Content = []byte("another one")
			wantLast(t, topo, api.ErrForm, then(l[:n], other)...)
			later := slices.IndexFunc(l[n+1:], func(x api.Mark) bool { return x.A == m.A && x.Is >= api.Asked && x.Is <= api.Gap })
			wasTold := slices.ContainsFunc(l[:n], func(x api.Mark) bool {
				return x.Is == api.Told && x.A == topo.Subs[m.A-1].Pub && x.From == m.From
			})
			if later < 0 || !wasTold || l[n+1+later].Is != api.Got && l[n+1+later].Is != api.Quiet {
				continue
			}
			skipped := slices.Delete(slices.Clone(l), n, n+1)
			if at, fault := judge.Judge(topo, skipped); fault == api.OK || at > n+later {
				t.Fatalf("seed %d: without mark %d: %d and error %d", seed, n, at, fault)
			}
		}
	}
	if tried < 100 {
		t.Fatalf("%d were tried, too few", tried)
	}
}
