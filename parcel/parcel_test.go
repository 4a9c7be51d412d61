package parcel_test

import (
	"bytes"
	"math"
	"slices"
	"testing"

	"grapevine/api"
	"grapevine/parcel"
)

// kinds are all that a parcel may be.
var kinds = []api.Mail{api.Tell, api.Want, api.Ack, api.Join, api.Grant, api.Leave}

// noKinds are numbers that no kind has, among them some whose lowest byte is one's.
var noKinds = []api.Mail{api.NoMail, -1, 7, 8, 255, 256, 257, 1<<32 + 1, -255, math.MaxInt, math.MinInt}

func wantErr(t *testing.T, call string, got, want api.Errno) {
	t.Helper()
	if got != want {
		t.Fatalf("%s: error %d, wanted %d", call, got, want)
	}
}

// wantFault: neither Check nor Put takes it.
func wantFault(t *testing.T, p api.Parcel, want api.Errno) {
	t.Helper()
	if got := parcel.Check(p); got != want {
		t.Fatalf("Check of %+v: error %d, wanted %d", p, got, want)
	}
	if b, got := parcel.Put(p); got != want || len(b) != 0 {
		t.Fatalf("Put of %+v: % x, error %d, wanted %d", p, b, got, want)
	}
}

func wantRight(t *testing.T, p api.Parcel) {
	t.Helper()
	if got := parcel.Check(p); got != api.OK {
		t.Fatalf("Check of %+v: error %d", p, got)
	}
}

func mustPut(t *testing.T, p api.Parcel) []byte {
	t.Helper()
	b, fault := parcel.Put(p)
	if fault != api.OK {
		t.Fatalf("Put of %+v: error %d", p, fault)
	}
	return b
}

func noTake(t *testing.T, b []byte, want api.Errno) {
	t.Helper()
	p, fault := parcel.Take(b)
	if fault != want {
		t.Fatalf("Take of % x: error %d, wanted %d", b, fault, want)
	}
	if !same(p, api.Parcel{}) {
		t.Fatalf("Take of % x: error %d, and %+v", b, fault, p)
	}
}

// same: do two parcels say the same in all fields?
func same(p, q api.Parcel) bool {
	return p.Kind == q.Kind && p.Pub == q.Pub && p.Sub == q.Sub && p.N == q.N && p.From == q.From && p.To == q.To &&
		slices.Equal(p.Spans, q.Spans) && slices.EqualFunc(p.Items, q.Items, sameItem)
}

func sameItem(a, b api.Item) bool {
	return a.Tick == b.Tick && a.For == b.For && bytes.Equal(a.Body, b.Body)
}

// right is a parcel of a kind in which all fields are set, and all that are used may be.
func right(kind api.Mail) api.Parcel {
	p := api.Parcel{Kind: kind, Pub: 2, Sub: 5, N: 77, From: 10, To: 300}
	p.Spans = []api.Span{{From: 10, To: 19, Is: api.Silence}, {From: 20, To: 20, Is: api.Lost}, {From: 40, To: 300, Is: api.Lost}}
	p.Items = []api.Item{{Tick: 21, For: 1<<32 - 1, Body: []byte("ab")}, {Tick: 22}, {Tick: 39, For: 300, Body: []byte{0}}}
	return p
}

// tell is a Tell of a range.
func tell(from, to int) api.Parcel { return api.Parcel{Kind: api.Tell, From: from, To: to} }

// P13.2: the examples, and one of each kind with all fields set.
func TestBytes(t *testing.T) {
	for _, c := range []struct {
		p    api.Parcel
		want string
	}{
		{api.Parcel{Kind: api.Want, Pub: 1, From: 5, To: 300}, "\x02\x01\x05\xac\x02"},
		{api.Parcel{Kind: api.Join, Sub: 7, N: 1}, "\x04\x00\x07\x01"},
		{right(api.Want), "\x02\x02\x0a\xac\x02"},
		{right(api.Ack), "\x03\x02\x05\x4d\x0a"},
		{right(api.Join), "\x04\x02\x05\x4d"},
		{right(api.Grant), "\x05\x02\x05\x4d\x0a"},
		{right(api.Leave), "\x06\x02\x05\x4d"},
		{right(api.Tell), "\x01\x02\x0a\xac\x02" + "\x03\x09\x09\x02\x00\x00\x03\x13\x84\x02\x03" +
			"\x03" + "\x15\xff\xff\xff\xff\x0f\x02ab" + "\x16\x00\x00" + "\x27\xac\x02\x01\x00"},
		{tell(1, 1), "\x01\x00\x01\x01\x00\x00"},
		{tell(api.MaxTick, api.MaxTick), "\x01\x00\x80\x80\x80\x80\x80\x20\x80\x80\x80\x80\x80\x20\x00\x00"},
	} {
		if got := mustPut(t, c.p); string(got) != c.want {
			t.Fatalf("Put of %+v: % x, wanted % x", c.p, got, c.want)
		}
		got, fault := parcel.Take([]byte(c.want))
		wantErr(t, "Take", fault, api.OK)
		if !same(got, parcel.Plain(c.p)) {
			t.Fatalf("Take of % x: %+v", c.want, got)
		}
	}
}

// P13.1: the kind is asked for first, whatever else is wrong.
func TestCheckKind(t *testing.T) {
	for _, kind := range noKinds {
		wantFault(t, right(kind), api.ErrType)
		wantFault(t, api.Parcel{Kind: kind, Pub: -1, From: -1, Spans: make([]api.Span, 99)}, api.ErrType)
	}
	for _, kind := range kinds {
		wantRight(t, right(kind))
	}
}

// field is one of a parcel's numbers, which parcels of some kinds use.
type field struct {
	name   string
	of     func(p *api.Parcel) *int
	usedBy []api.Mail
}

func fields() []field {
	return []field{
		{"Pub", func(p *api.Parcel) *int { return &p.Pub }, kinds},
		{"Sub", func(p *api.Parcel) *int { return &p.Sub }, []api.Mail{api.Ack, api.Join, api.Grant, api.Leave}},
		{"N", func(p *api.Parcel) *int { return &p.N }, []api.Mail{api.Ack, api.Join, api.Grant, api.Leave}},
		{"From", func(p *api.Parcel) *int { return &p.From }, []api.Mail{api.Tell, api.Want, api.Ack, api.Grant}},
		{"To", func(p *api.Parcel) *int { return &p.To }, []api.Mail{api.Tell, api.Want}},
	}
}

// allowed are the edges within which a field may be.
func allowed(name string, kind api.Mail) (int, int) {
	switch name {
	case "Pub":
		return 0, api.MaxPubs - 1
	case "Sub":
		return 1, api.MaxSubs
	case "N":
		return 1, api.MaxNumber
	case "From":
		if kind == api.Tell || kind == api.Want {
			return 1, 300
		}
		return 0, api.MaxTick
	}
	return 10, api.MaxTick
}

// P13.1: each number that is used at its edges, and beyond them; of those that are not used nothing is looked at.
func TestCheckNumbers(t *testing.T) {
	for _, kind := range kinds {
		for _, f := range fields() {
			low, high := allowed(f.name, kind)
			uses := slices.Contains(f.usedBy, kind)
			for _, n := range []int{low, high, low - 1, high + 1, math.MinInt, math.MaxInt, -1 << 32, 1<<32 + low, 1 << 62} {
				p := right(kind)
				p.Spans, p.Items = nil, nil
				*f.of(&p) = n
				if uses && (n < low || n > high) {
					wantFault(t, p, api.ErrArg)
				} else {
					wantRight(t, p)
				}
			}
		}
	}
}

// P13.1: of a range the edges at the limits of ticks.
func TestCheckRange(t *testing.T) {
	for _, kind := range []api.Mail{api.Tell, api.Want} {
		for _, c := range []struct {
			from, to int
			want     api.Errno
		}{
			{1, 1, api.OK}, {1, api.MaxTick, api.OK}, {api.MaxTick, api.MaxTick, api.OK},
			{0, 0, api.ErrArg}, {0, 1, api.ErrArg}, {2, 1, api.ErrArg}, {api.MaxTick, api.MaxTick - 1, api.ErrArg},
			{1, api.MaxTick + 1, api.ErrArg}, {api.MaxTick + 1, api.MaxTick + 1, api.ErrArg}, {-5, -5, api.ErrArg}, {math.MinInt, math.MaxInt, api.ErrArg},
		} {
			p := api.Parcel{Kind: kind, From: c.from, To: c.to}
			if got := parcel.Check(p); got != c.want {
				t.Fatalf("Check of %+v: error %d, wanted %d", p, got, c.want)
			}
		}
	}
}

// P13.1: of kinds without news no list is looked at.
func TestCheckPassesOverLists(t *testing.T) {
	for _, kind := range kinds[1:] {
		p := right(kind)
		p.Spans = make([]api.Span, api.MaxNews+1)
		p.Items = []api.Item{{Tick: -1, Body: make([]byte, api.MaxRec+1)}}
		wantRight(t, p)
	}
}

// alternating are spans of one tick each, from a tick on.
func alternating(from, count int) []api.Span {
	var l []api.Span
	for i := range count {
		l = append(l, api.Span{From: from + i, To: from + i, Is: api.Silence + api.Know(i%2)})
	}
	return l
}

// rising are items of ticks from one on.
func rising(from, count int) []api.Item {
	var l []api.Item
	for i := range count {
		l = append(l, api.Item{Tick: from + i, Body: []byte{byte(i)}})
	}
	return l
}

// P13.1: how many spans and items there may be; that goes behind the numbers, and ahead of what they are.
func TestCheckCounts(t *testing.T) {
	p := tell(1, 100)
	p.Spans, p.Items = alternating(1, api.MaxNews), rising(50, api.MaxItems)
	wantRight(t, p)
	p.Spans = alternating(1, api.MaxNews+1)
	wantFault(t, p, api.ErrLimit)
	p.Spans[0].Is = api.Data
	wantFault(t, p, api.ErrLimit)
	p.Pub = 3
	wantFault(t, p, api.ErrArg)
	p = tell(1, 100)
	p.Items = rising(50, api.MaxItems+1)
	wantFault(t, p, api.ErrLimit)
	p.Items[0].Tick = 0
	p.Spans = []api.Span{{}}
	wantFault(t, p, api.ErrLimit)
	p.To = 0
	wantFault(t, p, api.ErrArg)
}

// P13.1: what spans may be.
func TestCheckSpans(t *testing.T) {
	for _, l := range [][]api.Span{
		{{From: 10, To: 20, Is: api.Data}},
		{{From: 10, To: 20, Is: api.Unknown}},
		{{From: 10, To: 20, Is: api.Lost + 1}},
		{{From: 10, To: 20, Is: -1}},
		{{From: 10, To: 20, Is: api.Silence + 1<<32}},
		{{From: 9, To: 20, Is: api.Silence}},
		{{From: 10, To: 21, Is: api.Silence}},
		{{From: 1, To: 9, Is: api.Silence}},
		{{From: 21, To: 22, Is: api.Silence}},
		{{From: 13, To: 12, Is: api.Silence}},
		{{From: 10, To: 12, Is: api.Silence}, {From: 12, To: 14, Is: api.Lost}},
		{{From: 10, To: 12, Is: api.Silence}, {From: 13, To: 14, Is: api.Silence}},
		{{From: 15, To: 16, Is: api.Silence}, {From: 10, To: 12, Is: api.Lost}},
		{{From: 10, To: 12, Is: api.Silence}, {From: 14, To: 21, Is: api.Silence}},
		{{From: 10, To: 12, Is: api.Silence}, {From: 14, To: 16, Is: api.Data}},
		{{}},
		{{From: math.MinInt, To: math.MaxInt, Is: api.Lost}},
	} {
		p := tell(10, 20)
		p.Spans = l
		wantFault(t, p, api.ErrForm)
		p.Items = []api.Item{{Tick: 0, Body: make([]byte, api.MaxRec+1)}}
		wantFault(t, p, api.ErrForm)
	}
	for _, l := range [][]api.Span{
		nil, {},
		{{From: 10, To: 20, Is: api.Silence}},
		{{From: 10, To: 10, Is: api.Lost}, {From: 11, To: 11, Is: api.Silence}, {From: 20, To: 20, Is: api.Silence}},
	} {
		p := tell(10, 20)
		p.Spans = l
		wantRight(t, p)
	}
}

// P13.1: which ticks items may have.
func TestCheckTicks(t *testing.T) {
	spans := []api.Span{{From: 12, To: 14, Is: api.Silence}, {From: 15, To: 15, Is: api.Lost}}
	for _, c := range []struct {
		ticks []int
		want  api.Errno
	}{
		{[]int{10}, api.OK}, {[]int{20}, api.OK}, {[]int{10, 11, 16, 17, 20}, api.OK},
		{[]int{9}, api.ErrTick}, {[]int{21}, api.ErrTick}, {[]int{0}, api.ErrTick}, {[]int{-10}, api.ErrTick},
		{[]int{math.MaxInt}, api.ErrTick}, {[]int{math.MinInt}, api.ErrTick},
		{[]int{12}, api.ErrTick}, {[]int{13}, api.ErrTick}, {[]int{14}, api.ErrTick}, {[]int{15}, api.ErrTick},
		{[]int{10, 10}, api.ErrTick}, {[]int{11, 10}, api.ErrTick}, {[]int{10, 16, 11}, api.ErrTick}, {[]int{10, 20, 21}, api.ErrTick},
	} {
		p := tell(10, 20)
		p.Spans = spans
		for _, tick := range c.ticks {
			p.Items = append(p.Items, api.Item{Tick: tick})
		}
		if got := parcel.Check(p); got != c.want {
			t.Fatalf("items at %v: error %d, wanted %d", c.ticks, got, c.want)
		}
	}
	p := tell(1, api.MaxTick)
	p.Items = []api.Item{{Tick: 1}, {Tick: api.MaxTick}}
	wantRight(t, p)
	p.Items = append(p.Items, api.Item{Tick: api.MaxTick})
	wantFault(t, p, api.ErrTick)
}

// P13.1: item by item, its tick, then its body.
func TestCheckBodies(t *testing.T) {
	long := make([]byte, api.MaxRec+1)
	item := func(tick int, body []byte) api.Item { return api.Item{Tick: tick, Body: body} }
	for _, c := range []struct {
		items []api.Item
		want  api.Errno
	}{
		{[]api.Item{item(1, long[1:])}, api.OK},
		{[]api.Item{item(1, long)}, api.ErrLimit},
		{[]api.Item{item(0, long)}, api.ErrTick},
		{[]api.Item{item(1, nil), item(2, long)}, api.ErrLimit},
		{[]api.Item{item(1, nil), item(1, long)}, api.ErrTick},
		{[]api.Item{item(1, long), item(1, nil)}, api.ErrLimit},
		{[]api.Item{item(1, nil), item(0, nil), item(5, long)}, api.ErrTick},
	} {
		p := tell(1, 9)
		p.Items = c.items
		if got := parcel.Check(p); got != c.want {
			t.Fatalf("%d items: error %d, wanted %d", len(c.items), got, c.want)
		}
	}
}

// P13.1: what is used stays, all else is zero.
func TestPlain(t *testing.T) {
	for _, kind := range kinds {
		p := right(kind)
		want := api.Parcel{Kind: kind}
		for _, f := range fields() {
			if slices.Contains(f.usedBy, kind) {
				*f.of(&want) = *f.of(&p)
			}
		}
		if kind == api.Tell {
			want.Spans, want.Items = p.Spans, p.Items
		}
		if got := parcel.Plain(p); !same(got, want) {
			t.Fatalf("Plain of %+v: %+v", p, got)
		}
		if got := parcel.Plain(parcel.Plain(p)); !same(got, want) {
			t.Fatalf("Plain of Plain of %+v: %+v", p, got)
		}
	}
	for _, kind := range noKinds {
		if got := parcel.Plain(right(kind)); !same(got, api.Parcel{Kind: kind}) {
			t.Fatalf("Plain of none: %+v", got)
		}
	}
}

// P13.1: Plain does not ask whether a parcel may be.
func TestPlainOfWrong(t *testing.T) {
	p := api.Parcel{Kind: api.Tell, Pub: -7, From: 9, To: math.MinInt, Spans: make([]api.Span, 99), Items: make([]api.Item, 99)}
	if got := parcel.Plain(p); !same(got, p) {
		t.Fatalf("Plain of %+v: %+v", p, got)
	}
	q := api.Parcel{Kind: api.Ack, Pub: 99, Sub: -1, N: math.MaxInt, From: -3}
	if got := parcel.Plain(q); !same(got, q) {
		t.Fatalf("Plain of %+v: %+v", q, got)
	}
}

// P3: what Plain, Put and Take answer is new memory, and what is handed in stays.
func TestMemory(t *testing.T) {
	p := right(api.Tell)
	p.Sub, p.N = 0, 0
	room := []byte("abcdef")
	p.Items[0].Body = room[:2]
	plain, b := parcel.Plain(p), mustPut(t, p)
	wanted, before := right(api.Tell), bytes.Clone(b)
	wanted.Sub, wanted.N = 0, 0
	got, _ := parcel.Take(b)
	again, _ := parcel.Take(b)
	if string(room) != "abcdef" || !same(p, wanted) || !bytes.Equal(b, before) {
		t.Fatal("what was handed in is changed")
	}
	p.Spans[0].From, p.Items[1].Tick = 0, 0
	clear(room)
	clear(b)
	for _, q := range []api.Parcel{plain, got, again} {
		if !same(q, wanted) {
			t.Fatalf("an answer lies in what was handed in: %+v", q)
		}
	}
	for i := range got.Items {
		got.Items[i].Body = append(got.Items[i].Body, "spilt over the end"...)
		clear(got.Items[i].Body)
		got.Items[i].Body = nil
	}
	clear(got.Spans)
	if !same(again, wanted) || !same(plain, wanted) {
		t.Fatal("two answers lie in one another")
	}
}

// P13.4: the longest parcel that may be has room in a seal.
func TestLongest(t *testing.T) {
	p := tell(1<<35, api.MaxTick)
	p.Pub = api.MaxPubs - 1
	for i := range api.MaxNews {
		p.Spans = append(p.Spans, api.Span{From: 1<<35 + i<<34, To: 1<<35 + i<<34 + 1<<33, Is: api.Silence})
	}
	for i := range api.MaxItems {
		p.Items = append(p.Items, api.Item{Tick: api.MaxTick - 8 + i, For: 1<<32 - 1, Body: make([]byte, api.MaxRec)})
	}
	b := mustPut(t, p)
	if len(b) > api.MaxBody || len(b) < 3600 {
		t.Fatalf("it has %d bytes", len(b))
	}
	if got, fault := parcel.Take(b); fault != api.OK || !same(got, p) {
		t.Fatalf("Take of it: error %d", fault)
	}
}
