package judge_test

import (
	"testing"

	"grapevine/api"
	"grapevine/judge"
	"grapevine/pred"
)

const top = api.MaxTick

// terms are those of a text.
func terms(text string) []api.Term {
	l, _, fault := pred.Parse(text)
	if fault != api.OK {
		panic("no predicate: " + text)
	}
	return l
}

// alone is one broker with publishers, and a subscription of the first one for each text.
func alone(pubs int, texts ...string) api.Topo {
	t := api.Topo{Brokers: 1, Pubs: make([]int, pubs), Schema: []api.Field{{Name: "a", Kind: api.Whole}}}
	for _, text := range texts {
		t.Subs = append(t.Subs, api.Sub{Terms: terms(text)})
	}
	return t
}

// priced is an event with a = n.
func priced(n int64) api.Event {
	return api.Event{Attrs: []api.Attr{{Name: "a", Value: api.Value{Kind: api.Whole, Whole: n}}}}
}

// Events of which two subscriptions, of all and of a>5, have the first, and both the second.
var low, high = priced(1), priced(9)

// Marks, in short.

func told(pub, tick int, e api.Event) api.Mark {
	return api.Mark{Is: api.Told, A: pub, From: tick, Event: e}
}
func tried(pub int, e api.Event) api.Mark { return api.Mark{Is: api.Tried, A: pub, Event: e} }
func released(pub, tick int) api.Mark     { return api.Mark{Is: api.Released, A: pub, From: tick} }
func asked(id int) api.Mark               { return api.Mark{Is: api.Asked, A: id} }
func ended(id int) api.Mark               { return api.Mark{Is: api.Ended, A: id} }
func began(id, tick int) api.Mark         { return api.Mark{Is: api.Began, A: id, From: tick} }
func closed(id int) api.Mark              { return api.Mark{Is: api.Closed, A: id} }
func got(id, tick int, e api.Event) api.Mark {
	return api.Mark{Is: api.Got, A: id, From: tick, Event: e}
}
func quiet(id, tick int) api.Mark    { return api.Mark{Is: api.Quiet, A: id, From: tick} }
func gap(id, from, to int) api.Mark  { return api.Mark{Is: api.Gap, A: id, From: from, To: to} }
func acked(id, tick int) api.Mark    { return api.Mark{Is: api.Acked, A: id, From: tick} }
func ackTried(id, tick int) api.Mark { return api.Mark{Is: api.AckTried, A: id, From: tick} }

// trace is marks, of which only the last one may be one that may not be.
func trace(l ...api.Mark) []api.Mark { return l }

// then is a trace with marks behind it.
func then(l []api.Mark, more ...api.Mark) []api.Mark {
	return append(l[:len(l):len(l)], more...)
}

// wantAll: all of a trace may be.
func wantAll(t *testing.T, topo api.Topo, l ...api.Mark) {
	t.Helper()
	if n, fault := judge.Judge(topo, l); n != len(l) || fault != api.OK {
		t.Fatalf("Judge of %v: %d and error %d", l, n, fault)
	}
}

// wantLast: the last mark of a trace may not be, and the ones ahead of it may.
func wantLast(t *testing.T, topo api.Topo, want api.Errno, l ...api.Mark) {
	t.Helper()
	if n, fault := judge.Judge(topo, l); n != len(l)-1 || fault != want {
		t.Fatalf("Judge of %v: %d and error %d, wanted %d and error %d", l, n, fault, len(l)-1, want)
	}
	if l, is := judge.Owed(topo, l, 1); is || len(l) != 0 {
		t.Fatalf("of a trace that may not be is owed %v", l)
	}
}

// wantEach: each of some marks has this error behind a trace that may be.
func wantEach(t *testing.T, topo api.Topo, want api.Errno, ahead []api.Mark, each ...api.Mark) {
	t.Helper()
	for _, m := range each {
		if want == api.OK {
			wantAll(t, topo, then(ahead, m)...)
		} else {
			wantLast(t, topo, want, then(ahead, m)...)
		}
	}
}

// wantOwed holds what a subscription is owed against what it is to be.
func wantOwed(t *testing.T, topo api.Topo, l []api.Mark, id int, want ...int) {
	t.Helper()
	got, is := judge.Owed(topo, l, id)
	if !is || len(got) != len(want) {
		t.Fatalf("owed to %d: %v, %v, wanted %v", id, got, is, want)
	}
	for i := range got {
		if got[i] != want[i] {
			t.Fatalf("owed to %d: %v, wanted %v", id, got, want)
		}
	}
}
