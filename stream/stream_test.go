package stream_test

import (
	"bytes"
	"math"
	"slices"
	"testing"

	"grapevine/api"
	"grapevine/parcel"
	"grapevine/stream"
)

const top = api.MaxTick

func quiet(from, to int) api.Span { return api.Span{From: from, To: to, Is: api.Silence} }
func lost(from, to int) api.Span  { return api.Span{From: from, To: to, Is: api.Lost} }
func data(from, to int) api.Span  { return api.Span{From: from, To: to, Is: api.Data} }

func item(tick int, links uint32, body string) api.Item {
	return api.Item{Tick: tick, For: links, Body: []byte(body)}
}

// told is a Tell of spans and items.
func told(from, to int, spans []api.Span, items ...api.Item) api.Parcel {
	return api.Parcel{Kind: api.Tell, From: from, To: to, Spans: spans, Items: items}
}

func wantErr(t *testing.T, call string, got, want api.Errno) {
	t.Helper()
	if got != want {
		t.Fatalf("%s: error %d, wanted %d", call, got, want)
	}
}

// learn is Learn of what may be learnt, and whether it was news.
func learn(t *testing.T, s *stream.Stream, p api.Parcel) bool {
	t.Helper()
	news, fault := s.Learn(p)
	wantErr(t, "Learn", fault, api.OK)
	return news
}

// taught is a stream that learnt Tells.
func taught(t *testing.T, tells ...api.Parcel) *stream.Stream {
	t.Helper()
	s := stream.New()
	for _, p := range tells {
		learn(t, s, p)
	}
	return s
}

func wantMap(t *testing.T, s *stream.Stream, want ...api.Span) {
	t.Helper()
	if got := s.Map(); !slices.Equal(got, want) {
		t.Fatalf("map %v, wanted %v", got, want)
	}
}

func sameItem(a, b api.Item) bool {
	return a.Tick == b.Tick && a.For == b.For && bytes.Equal(a.Body, b.Body)
}

func wantItem(t *testing.T, s *stream.Stream, want api.Item) {
	t.Helper()
	if got, is := s.Item(want.Tick); !is || !sameItem(got, want) {
		t.Fatalf("item %v %v, wanted %v", got, is, want)
	}
}

func wantNoItem(t *testing.T, s *stream.Stream, ticks ...int) {
	t.Helper()
	for _, tick := range ticks {
		if got, is := s.Item(tick); is || got.Tick != 0 || got.For != 0 || got.Body != nil {
			t.Fatalf("item %v %v of tick %d, wanted none", got, is, tick)
		}
	}
}

func sameTell(a, b api.Parcel) bool {
	return a.Kind == b.Kind && a.Pub == b.Pub && a.Sub == b.Sub && a.N == b.N && a.From == b.From && a.To == b.To && slices.Equal(a.Spans, b.Spans) && slices.EqualFunc(a.Items, b.Items, sameItem)
}

func wantTell(t *testing.T, s *stream.Stream, pub, from, to int, links uint32, want ...api.Parcel) {
	t.Helper()
	got, fault := s.Tell(pub, from, to, links)
	wantErr(t, "Tell", fault, api.OK)
	if !slices.EqualFunc(got, want, sameTell) {
		t.Fatalf("told %v, wanted %v", got, want)
	}
}

func sameStep(a, b api.Step) bool {
	return a.Is == b.Is && a.From == b.From && a.To == b.To && sameItem(a.Item, b.Item)
}

func wantNext(t *testing.T, s *stream.Stream, tick, id int, want api.Step) {
	t.Helper()
	got, fault := s.Next(tick, id)
	wantErr(t, "Next", fault, api.OK)
	if !sameStep(got, want) {
		t.Fatalf("next of %d for %d: %v, wanted %v", tick, id, got, want)
	}
}

func nothing(to int) api.Step { return api.Step{To: to} }

func handed(i api.Item) api.Step {
	return api.Step{Is: api.Data, From: i.Tick, To: i.Tick, Item: i}
}

// P1
func TestNil(t *testing.T) {
	var s *stream.Stream
	news, fault := s.Learn(told(1, 2, nil))
	if wantErr(t, "Learn", fault, api.ErrNil); news {
		t.Fatal("news")
	}
	wantErr(t, "Lose", s.Lose(1), api.ErrNil)
	wantErr(t, "Lose", s.Lose(-1), api.ErrNil)
	l, fault := s.Tell(0, 1, 2, 1)
	if wantErr(t, "Tell", fault, api.ErrNil); l != nil {
		t.Fatal("told", l)
	}
	step, fault := s.Next(0, 1)
	if wantErr(t, "Next", fault, api.ErrNil); !sameStep(step, api.Step{}) {
		t.Fatal("a step", step)
	}
	if s.Map() != nil || s.Fork() != nil {
		t.Fatal("a map or a fork of nothing")
	}
	wantNoItem(t, s, 0, 1, -1)
}

// P15.1: what may not be learnt changes nothing, and the parcel's own error is ahead of its kind.
func TestLearnErrors(t *testing.T) {
	s := taught(t, told(1, 9, []api.Span{quiet(1, 4)}, item(5, 1, "a")))
	many := make([]api.Span, api.MaxNews+1)
	for i := range many {
		many[i] = quiet(2*i+1, 2*i+1)
	}
	long := string(make([]byte, api.MaxRec+1))
	for _, at := range []struct {
		p    api.Parcel
		want api.Errno
	}{
		{api.Parcel{}, api.ErrType},
		{api.Parcel{Kind: api.Leave + 1}, api.ErrType},
		{api.Parcel{Kind: api.Want, From: 6, To: 9}, api.ErrType},
		{api.Parcel{Kind: api.Want, From: 9, To: 6}, api.ErrArg},
		{api.Parcel{Kind: api.Join, Sub: 1, N: 1}, api.ErrType},
		{api.Parcel{Kind: api.Join, Sub: 0, N: 1}, api.ErrArg},
		{api.Parcel{Kind: api.Ack, Sub: 1, N: 1, From: 9}, api.ErrType},
		{api.Parcel{Kind: api.Grant, Sub: 1, N: 1, From: 9}, api.ErrType},
		{api.Parcel{Kind: api.Leave, Sub: 1, N: 1}, api.ErrType},
		{api.Parcel{Kind: api.Tell, Pub: api.MaxPubs, From: 6, To: 9, Spans: []api.Span{quiet(6, 9)}}, api.ErrArg},
		{told(0, 9, []api.Span{quiet(6, 9)}), api.ErrArg},
		{told(9, 8, nil), api.ErrArg},
		{told(6, top+1, nil), api.ErrArg},
		{told(1, 99, many), api.ErrLimit},
		{told(6, 9, []api.Span{quiet(5, 9)}), api.ErrForm},
		{told(6, 9, []api.Span{data(6, 9)}), api.ErrForm},
		{told(6, 9, []api.Span{quiet(6, 7), quiet(8, 9)}), api.ErrForm},
		{told(6, 9, nil, item(5, 1, "b")), api.ErrTick},
		{told(6, 9, nil, item(6, 1, "b"), item(6, 1, "b")), api.ErrTick},
		{told(6, 9, []api.Span{lost(6, 7)}, item(7, 1, "b")), api.ErrTick},
		{told(6, 9, nil, item(6, 1, long)), api.ErrLimit},
	} {
		news, fault := s.Learn(at.p)
		wantErr(t, "Learn", fault, at.want)
		if news {
			t.Fatalf("news of %v", at.p)
		}
		wantMap(t, s, quiet(1, 4), data(5, 5))
		wantItem(t, s, item(5, 1, "a"))
	}
}

// P15.1
func TestLearnSpans(t *testing.T) {
	s := taught(t, told(1, 9, nil, item(3, 1, "a"), item(4, 2, "b"), item(5, 4, "c")))
	wantMap(t, s, data(3, 5))
	if !learn(t, s, told(1, 9, []api.Span{quiet(4, 6)})) {
		t.Fatal("no news")
	}
	wantMap(t, s, data(3, 3), quiet(4, 6))
	wantItem(t, s, item(3, 1, "a"))
	wantNoItem(t, s, 4, 5)
	if !learn(t, s, told(1, 9, []api.Span{lost(1, 4)})) {
		t.Fatal("no news")
	}
	wantMap(t, s, lost(1, 4), quiet(5, 6))
	wantNoItem(t, s, 3)
	// What is greater stays.
	if learn(t, s, told(1, 9, []api.Span{quiet(2, 3)})) {
		t.Fatal("news")
	}
	wantMap(t, s, lost(1, 4), quiet(5, 6))
}

// P15.1
func TestLearnItems(t *testing.T) {
	s := taught(t, told(1, 9, []api.Span{quiet(1, 2), lost(3, 3)}, item(5, 1, "a")))
	// Nothing of ticks that are silent or lost.
	if learn(t, s, told(1, 4, nil, item(2, 1, "x"), item(3, 1, "y"))) {
		t.Fatal("news")
	}
	wantNoItem(t, s, 2, 3)
	wantMap(t, s, quiet(1, 2), lost(3, 3), data(5, 5))
	// Those for whom it is are added up, its bytes stay.
	if learn(t, s, told(5, 5, nil, item(5, 1, "other"))) || learn(t, s, told(5, 5, nil, item(5, 0, "a"))) {
		t.Fatal("news")
	}
	wantItem(t, s, item(5, 1, "a"))
	if !learn(t, s, told(5, 5, nil, item(5, 6, "other"))) {
		t.Fatal("no news")
	}
	wantItem(t, s, item(5, 7, "a"))
	if !learn(t, s, told(5, 9, nil, item(5, 1, "a"), item(6, 0, ""), item(9, 1<<31, "z"))) {
		t.Fatal("no news")
	}
	wantItem(t, s, item(6, 0, ""))
	wantItem(t, s, item(9, 1<<31, "z"))
	wantMap(t, s, quiet(1, 2), lost(3, 3), data(5, 6), data(9, 9))
	// A Tell that says nothing is none.
	if learn(t, s, told(1, top, nil)) {
		t.Fatal("news")
	}
	// A publisher's number plays no part, nor what a Tell does not use.
	if !learn(t, s, api.Parcel{Kind: api.Tell, Pub: 2, Sub: 99, N: -1, From: 10, To: top, Spans: []api.Span{quiet(10, top-1)}, Items: []api.Item{item(top, 1, "q")}}) {
		t.Fatal("no news")
	}
	wantItem(t, s, item(top, 1, "q"))
}

// full is a stream that keeps as many items as it may, at the even ticks from 2 on.
func full(t *testing.T) *stream.Stream {
	t.Helper()
	s := stream.New()
	for i := 1; i <= api.MaxKeep; i++ {
		learn(t, s, told(2*i, 2*i, nil, item(2*i, 1, "a")))
	}
	return s
}

// P15.1: the item of the least tick is forgotten.
func TestForget(t *testing.T) {
	last := 2 * api.MaxKeep
	s := full(t)
	wantItem(t, s, item(2, 1, "a"))
	if !learn(t, s, told(last+1, last+2, []api.Span{quiet(last+1, last+1)}, item(last+2, 1, "b"))) {
		t.Fatal("no news")
	}
	wantNoItem(t, s, 2)
	wantItem(t, s, item(4, 1, "a"))
	wantNext(t, s, 0, 1, nothing(0))
	if k := s.Map()[0]; k != data(4, 4) {
		t.Fatal("the first span", k)
	}
	// One that is less than all others is forgotten at once, so it is no news.
	if learn(t, s, told(1, 3, nil, item(1, 1, "c"), item(3, 1, "c"))) {
		t.Fatal("news")
	}
	wantNoItem(t, s, 1, 3)
	// As is one whose For grows, if it goes.
	if !learn(t, s, told(4, last+4, nil, item(4, 2, "a"), item(last+4, 1, "d"))) {
		t.Fatal("no news")
	}
	wantNoItem(t, s, 4)
	// Several at once.
	more := make([]api.Item, api.MaxItems)
	for i := range more {
		more[i] = item(last+10+i, 1, "e")
	}
	learn(t, s, told(last+10, last+20, nil, more...))
	wantNoItem(t, s, 6, 8, 20)
	wantItem(t, s, item(22, 1, "a"))
	// Ticks that are known not to be Data make room.
	learn(t, s, told(1, 30, []api.Span{quiet(1, 30)}))
	if learn(t, s, told(1, 30, nil, item(8, 1, "x"))) || !learn(t, s, told(31, 31, nil, item(31, 1, "x"))) {
		t.Fatal("news")
	}
	wantItem(t, s, item(31, 1, "x"))
	wantItem(t, s, item(32, 1, "a"))
}

// P15.2
func TestLose(t *testing.T) {
	s := taught(t, told(1, 20, []api.Span{quiet(3, 4), lost(8, 9), quiet(12, 14)}, item(1, 1, "a"), item(5, 1, "b"), item(6, 2, "c"), item(15, 1, "d")))
	for _, bad := range []int{-1, top + 1, math.MinInt, math.MaxInt} {
		wantErr(t, "Lose", s.Lose(bad), api.ErrArg)
	}
	wantErr(t, "Lose", s.Lose(0), api.OK)
	wantMap(t, s, data(1, 1), quiet(3, 4), data(5, 6), lost(8, 9), quiet(12, 14), data(15, 15))
	wantErr(t, "Lose", s.Lose(5), api.OK)
	wantMap(t, s, lost(1, 2), quiet(3, 4), lost(5, 5), data(6, 6), lost(8, 9), quiet(12, 14), data(15, 15))
	wantNoItem(t, s, 1, 5)
	wantItem(t, s, item(6, 2, "c"))
	wantErr(t, "Lose", s.Lose(13), api.OK)
	wantMap(t, s, lost(1, 2), quiet(3, 4), lost(5, 11), quiet(12, 14), data(15, 15))
	wantErr(t, "Lose", s.Lose(14), api.OK)
	wantItem(t, s, item(15, 1, "d"))
	wantErr(t, "Lose", s.Lose(top), api.OK)
	wantMap(t, s, lost(1, 2), quiet(3, 4), lost(5, 11), quiet(12, 14), lost(15, top))
	wantNoItem(t, s, 15)
	// What is lost is learnt no more.
	if learn(t, s, told(15, 20, []api.Span{quiet(16, 20)}, item(15, 1, "d"))) {
		t.Fatal("news")
	}
	alone := stream.New()
	wantErr(t, "Lose", alone.Lose(7), api.OK)
	wantMap(t, alone, lost(1, 7))
}

// P15.3
func TestTellArgs(t *testing.T) {
	s := taught(t, told(1, 9, []api.Span{quiet(1, 9)}))
	for _, at := range [][3]int{{-1, 1, 2}, {api.MaxPubs, 1, 2}, {math.MinInt, 1, 2}, {0, 0, 2}, {0, -5, 2}, {0, 3, 2}, {0, 1, top + 1}, {0, 1, math.MaxInt}, {0, math.MaxInt, math.MinInt}} {
		l, fault := s.Tell(at[0], at[1], at[2], 1)
		if wantErr(t, "Tell", fault, api.ErrArg); l != nil {
			t.Fatal("told", l)
		}
	}
	wantTell(t, s, 2, 10, top, 1)
	wantTell(t, stream.New(), 0, 1, top, math.MaxUint32)
	wantTell(t, s, 0, 9, top, 1, told(9, top, []api.Span{quiet(9, 9)}))
}

// P15.3: which items are silence, and what is one span.
func TestTell(t *testing.T) {
	a, b, c := item(5, 1, "a"), item(6, 2, "b"), item(7, 3, "c")
	s := taught(t, told(1, 20, []api.Span{quiet(1, 4), quiet(8, 9), lost(10, 12), quiet(15, 15)}, a, b, c))
	all := []api.Span{quiet(1, 4), quiet(8, 9), lost(10, 12), quiet(15, 15)}
	wantTell(t, s, 0, 1, 20, 3, told(1, 20, all, a, b, c))
	wantTell(t, s, 0, 1, 20, math.MaxUint32, told(1, 20, all, a, b, c))
	wantTell(t, s, 0, 1, 20, 1, told(1, 20, []api.Span{quiet(1, 4), quiet(6, 6), quiet(8, 9), lost(10, 12), quiet(15, 15)}, a, c))
	wantTell(t, s, 0, 1, 20, 2, told(1, 20, []api.Span{quiet(1, 5), quiet(8, 9), lost(10, 12), quiet(15, 15)}, b, c))
	wantTell(t, s, 0, 1, 20, 0, told(1, 20, []api.Span{quiet(1, 9), lost(10, 12), quiet(15, 15)}))
	wantTell(t, s, 0, 1, 20, 1<<31, told(1, 20, []api.Span{quiet(1, 9), lost(10, 12), quiet(15, 15)}))
	p := told(6, 6, []api.Span{quiet(6, 6)})
	p.Pub = 2
	wantTell(t, s, 2, 6, 6, 5, p)
	wantTell(t, s, 0, 3, 5, 1, told(3, 5, []api.Span{quiet(3, 4)}, a))
	wantTell(t, s, 0, 11, 14, 1, told(11, 14, []api.Span{lost(11, 12)}))
	wantTell(t, s, 0, 13, 14, 1)
	// The stream stays as it is: what is silence for one is none for others.
	wantItem(t, s, a)
	wantItem(t, s, b)
}

// P15.3: Tells end where they have no room.
func TestTellCut(t *testing.T) {
	const n = api.MaxItems
	s := stream.New()
	var items []api.Item
	for i := 1; i <= 2*n+1; i++ {
		items = append(items, item(3*i, 1, "a"))
		learn(t, s, told(3*i, 3*i, nil, items[i-1]))
	}
	wantTell(t, s, 0, 1, 3*n, 1, told(1, 3*n, nil, items[:n]...))
	wantTell(t, s, 0, 1, 3*n+2, 1, told(1, 3*n+2, nil, items[:n]...))
	wantTell(t, s, 0, 1, 3*n+3, 1, told(1, 3*n+2, nil, items[:n]...), told(3*n+3, 3*n+3, nil, items[n]))
	wantTell(t, s, 0, 2, 999, 1, told(2, 3*n+2, nil, items[:n]...), told(3*n+3, 6*n+2, nil, items[n:2*n]...), told(6*n+3, 999, nil, items[2*n]))
	// A span behind the last item that it may have is in it still.
	learn(t, s, told(3*n+1, 3*n+2, []api.Span{quiet(3*n+1, 3*n+1), lost(3*n+2, 3*n+2)}))
	wantTell(t, s, 0, 2, 3*n+4, 1, told(2, 3*n+2, []api.Span{quiet(3*n+1, 3*n+1), lost(3*n+2, 3*n+2)}, items[:n]...), told(3*n+3, 3*n+4, nil, items[n]))
}

// P15.3
func TestTellCutSpans(t *testing.T) {
	const n = api.MaxNews
	s := stream.New()
	var spans []api.Span
	for i := 1; i <= 2*n+1; i++ {
		spans = append(spans, quiet(3*i, 3*i+1))
		learn(t, s, told(3*i, 3*i+1, spans[i-1:]))
	}
	wantTell(t, s, 0, 1, 3*n+2, 1, told(1, 3*n+2, spans[:n]))
	wantTell(t, s, 0, 1, 3*n+3, 1, told(1, 3*n+2, spans[:n]), told(3*n+3, 3*n+3, []api.Span{quiet(3*n+3, 3*n+3)}))
	wantTell(t, s, 0, 1, 999, 1, told(1, 3*n+2, spans[:n]), told(3*n+3, 6*n+2, spans[n:2*n]), told(6*n+3, 999, spans[2*n:]))
	// An item behind the last span that it may have is in it still.
	i := item(3*n+2, 1, "a")
	learn(t, s, told(1, 3*n+2, nil, i))
	wantTell(t, s, 0, 1, 3*n+4, 1, told(1, 3*n+2, spans[:n], i), told(3*n+3, 3*n+4, spans[n:n+1]))
	// For others it is silence: that and the spans on both sides are one.
	one := []api.Span{quiet(3*n, 3*n+4)}
	wantTell(t, s, 0, 1, 3*n+4, 2, told(1, 3*n+4, append(slices.Clone(spans[:n-1]), one...)))
}

// P15.4
func TestNext(t *testing.T) {
	s := taught(t, told(1, 5, []api.Span{quiet(1, 4)}, item(5, 1, "a")))
	wantNext(t, s, 0, 1, handed(item(5, 1, "a")))
	wantNext(t, s, 4, 1, handed(item(5, 1, "a")))
	wantNext(t, s, 5, 1, nothing(5))
	wantNext(t, s, 0, 2, nothing(5))
	wantNext(t, s, 9, 1, nothing(9))
	learn(t, s, told(6, 30, []api.Span{quiet(7, 7), lost(9, 12), quiet(13, 13)}, item(6, 2, "b"), item(8, 1<<31|2, "c"), item(14, 1, "d")))
	wantNext(t, s, 5, 1, api.Step{Is: api.Lost, From: 9, To: 12})
	wantNext(t, s, 5, 2, handed(item(6, 2, "b")))
	wantNext(t, s, 6, 2, handed(item(8, 1<<31|2, "c")))
	wantNext(t, s, 0, 32, handed(item(8, 1<<31|2, "c")))
	wantNext(t, s, 10, 32, api.Step{Is: api.Lost, From: 11, To: 12})
	wantNext(t, s, 11, 1, api.Step{Is: api.Lost, From: 12, To: 12})
	wantNext(t, s, 12, 1, handed(item(14, 1, "d")))
	wantNext(t, s, 12, 2, nothing(14))
	wantNext(t, s, 13, 2, nothing(14))
	wantNext(t, s, 20, 2, nothing(20))
}

// P15.4
func TestNextEdges(t *testing.T) {
	s := taught(t, told(top-2, top, []api.Span{quiet(top-1, top)}, item(top-2, 1, "a")))
	wantNext(t, s, 0, 1, nothing(0))
	wantNext(t, s, top-3, 1, handed(item(top-2, 1, "a")))
	wantNext(t, s, top-3, 2, nothing(top))
	wantNext(t, s, top-1, 1, nothing(top))
	wantNext(t, s, top, 1, nothing(top))
	wantErr(t, "Lose", s.Lose(top), api.OK)
	wantNext(t, s, 0, 1, api.Step{Is: api.Lost, From: 1, To: top - 2})
	last := taught(t, told(1, top, nil, item(top, 1, "z")))
	wantNext(t, last, top-1, 1, handed(item(top, 1, "z")))
	wantNext(t, last, top-1, 2, nothing(top))
	for _, at := range [][2]int{{-1, 1}, {top + 1, 1}, {math.MaxInt, 1}, {math.MinInt, 1}, {0, 0}, {0, -1}, {0, api.MaxSubs + 1}, {0, math.MaxInt}, {0, math.MinInt}} {
		step, fault := s.Next(at[0], at[1])
		if wantErr(t, "Next", fault, api.ErrArg); !sameStep(step, api.Step{}) {
			t.Fatal("a step", step)
		}
	}
}

// P3: nothing that is handed in is kept or changed, nothing that is answered is kept.
func TestMemory(t *testing.T) {
	spans := append(make([]api.Span, 0, 8), quiet(1, 4))
	body := append(make([]byte, 0, 8), 'a')
	items := append(make([]api.Item, 0, 8), api.Item{Tick: 5, For: 1, Body: body})
	s := taught(t, told(1, 9, spans, items...))
	if spans[:2][1] != (api.Span{}) || body[:2][1] != 0 || items[:2][1].Tick != 0 {
		t.Fatal("spare room was written")
	}
	spans[0], body[0], items[0].For = lost(1, 9), 'x', 9
	hold := func() {
		t.Helper()
		wantMap(t, s, quiet(1, 4), data(5, 5))
		wantItem(t, s, item(5, 1, "a"))
		wantNext(t, s, 0, 1, handed(item(5, 1, "a")))
		wantTell(t, s, 0, 1, 9, 1, told(1, 9, []api.Span{quiet(1, 4)}, item(5, 1, "a")))
	}
	hold()
	m := s.Map()
	m[0] = lost(1, 4)
	i, _ := s.Item(5)
	i.Body[0] = 'y'
	step, _ := s.Next(0, 1)
	step.Item.Body[0] = 'z'
	l, _ := s.Tell(0, 1, 9, 1)
	l[0].Spans[0], l[0].Items[0].Body[0] = lost(1, 4), 'q'
	l[0].Items[0].For = 0
	hold()
	other := s.Fork()
	_ = append(s.Map(), lost(9, 9))
	learn(t, s, told(6, 6, nil, item(6, 1, "b")))
	wantMap(t, other, quiet(1, 4), data(5, 5))
}

// P4, P15.4
func TestFork(t *testing.T) {
	s := taught(t, told(1, 9, []api.Span{quiet(1, 4)}, item(5, 1, "a"), item(6, 1, "b")))
	other := s.Fork()
	wantMap(t, other, quiet(1, 4), data(5, 6))
	wantItem(t, other, item(5, 1, "a"))
	learn(t, s, told(1, 9, []api.Span{lost(1, 4)}, item(5, 2, "a"), item(8, 1, "c")))
	wantErr(t, "Lose", s.Lose(6), api.OK)
	wantMap(t, other, quiet(1, 4), data(5, 6))
	wantItem(t, other, item(5, 1, "a"))
	wantNoItem(t, other, 8)
	learn(t, other, told(7, 7, nil, item(7, 1, "d")))
	wantErr(t, "Lose", other.Lose(5), api.OK)
	wantMap(t, s, lost(1, 6), data(8, 8))
	wantNoItem(t, s, 7)
	wantItem(t, s, item(8, 1, "c"))
}

// P15.5: what is told may be, whatever is known.
func TestTellMayBe(t *testing.T) {
	s := full(t)
	learn(t, s, told(1, 3, []api.Span{quiet(1, 1), lost(3, 3)}))
	for from := 1; from < 20; from++ {
		l, fault := s.Tell(1, from, top, 1)
		wantErr(t, "Tell", fault, api.OK)
		for _, p := range l {
			wantErr(t, "Check", parcel.Check(p), api.OK)
		}
	}
}
