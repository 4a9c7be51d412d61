package cover_test

import (
	"math"
	"slices"
	"strings"
	"testing"

	"grapevine/api"
	"grapevine/cover"
	"grapevine/event"
	"grapevine/pred"
)

const (
	least    = math.MinInt64
	greatest = math.MaxInt64
	longName = "abcdefghijklmnop" // MaxName bytes
)

func whole(n int64) api.Value  { return api.Value{Kind: api.Whole, Whole: n} }
func words(s string) api.Value { return api.Value{Kind: api.Words, Words: s} }
func truth(is bool) api.Value  { return api.Value{Kind: api.Truth, Truth: is} }
func point(x, y int) api.Value {
	return api.Value{Kind: api.Point, Point: complex(float64(x), float64(y))}
}

func attr(name string, v api.Value) api.Attr { return api.Attr{Name: name, Value: v} }

func of(attrs ...api.Attr) api.Event { return api.Event{Attrs: attrs} }

func long(n int) string { return strings.Repeat("x", n) }

// Sides: of the names and kinds of the schema below.
func low(from, to int64) api.Side {
	return api.Side{Name: "a", Kind: api.Whole, Low: from, High: to}
}
func text(from, to string) api.Side {
	return api.Side{Name: "c", Kind: api.Words, From: from, To: to}
}
func open(from string) api.Side { return api.Side{Name: "c", Kind: api.Words, From: from, Open: true} }
func bits(n uint8) api.Side     { return api.Side{Name: "b", Kind: api.Truth, Truths: n} }
func discs(ins, outs []api.Disc) api.Side {
	return api.Side{Name: "d", Kind: api.Point, Ins: ins, Outs: outs}
}
func noPoint() api.Side { return api.Side{Name: "d", Kind: api.Point, None: true} }

func in(l ...api.Disc) []api.Disc { return l }

func disc(x, y, r int) api.Disc { return api.Disc{X: x, Y: y, R: r} }

func orNone(side api.Side) api.Side {
	side.Absent = true
	return side
}

func named(name string, side api.Side) api.Side {
	side.Name = name
	return side
}

func box(l ...api.Side) []api.Side { return l }

func boxes(l ...[]api.Side) [][]api.Side { return l }

func schema() []api.Field {
	return []api.Field{{Name: "a", Kind: api.Whole}, {Name: "b", Kind: api.Truth}, {Name: "c", Kind: api.Words}, {Name: "d", Kind: api.Point}, {Name: "e", Kind: api.Whole}}
}

func sameSide(a, b api.Side) bool {
	if !slices.Equal(a.Ins, b.Ins) || !slices.Equal(a.Outs, b.Outs) {
		return false
	}
	return a.Name == b.Name && a.Kind == b.Kind && a.Absent == b.Absent && a.Low == b.Low && a.High == b.High && a.From == b.From && a.To == b.To && a.Open == b.Open && a.Truths == b.Truths && a.None == b.None
}

func sameBox(a, b []api.Side) bool { return slices.EqualFunc(a, b, sameSide) }

func sameBoxes(a, b [][]api.Side) bool { return slices.EqualFunc(a, b, sameBox) }

func terms(t *testing.T, text string) []api.Term {
	t.Helper()
	l, at, fault := pred.Parse(text)
	if fault != api.OK {
		t.Fatalf("Parse(%q): place %d, error %d", text, at, fault)
	}
	return l
}

func mustBoxes(t *testing.T, l []api.Term) [][]api.Side {
	t.Helper()
	out, fault := cover.Boxes(schema(), l)
	if fault != api.OK {
		t.Fatalf("Boxes(%v): error %d", l, fault)
	}
	return out
}

// wrong is a box with what is wrong with it.
type wrong struct {
	b    []api.Side
	want api.Errno
}

// wide is a box of n sides.
func wide(n int) []api.Side {
	var b []api.Side
	for i := range n {
		b = append(b, named(string(rune('a'+i)), low(0, 1)))
	}
	return b
}

func wrongs() []wrong {
	four := in(disc(0, 0, 1), disc(0, 0, 2), disc(0, 0, 3), disc(0, 0, 4))
	five := append(slices.Clone(four), disc(0, 0, 5))
	return []wrong{
		{wide(9), api.ErrLimit}, {make([]api.Side, 9), api.ErrLimit}, {make([]api.Side, 8), api.ErrName},
		{box(named("", low(0, 1))), api.ErrName}, {box(named("A", low(0, 1))), api.ErrName}, {box(named(longName+"q", low(0, 1))), api.ErrName}, {box(low(0, 1), named("1", low(0, 1))), api.ErrName},
		{box(low(0, 1), low(0, 1)), api.ErrForm}, {box(text("", "x"), low(0, 1)), api.ErrForm}, {box(named("aa", low(0, 1)), named("a-", low(0, 1))), api.ErrForm}, {box(low(0, 1), text("", "x"), bits(1)), api.ErrForm},
		{box(api.Side{Name: "a"}), api.ErrType}, {box(api.Side{Name: "a", Kind: 5}), api.ErrType}, {box(api.Side{Name: "a", Kind: -1}), api.ErrType}, {box(api.Side{Name: "a", Kind: math.MaxInt}), api.ErrType},
		{box(discs(five, nil)), api.ErrLimit}, {box(discs(nil, five)), api.ErrLimit}, {box(discs(make([]api.Disc, 500), nil)), api.ErrLimit}, {box(api.Side{Name: "d", Kind: api.Point, None: true, Ins: five}), api.ErrLimit},
		{box(discs(in(disc(1<<20+1, 0, 0)), nil)), api.ErrArg}, {box(discs(in(disc(-1<<20-1, 0, 0)), nil)), api.ErrArg}, {box(discs(in(disc(0, 1<<20+1, 0)), nil)), api.ErrArg}, {box(discs(in(disc(0, -1<<20-1, 0)), nil)), api.ErrArg}, {box(discs(in(disc(0, 0, -1)), nil)), api.ErrArg}, {box(discs(in(disc(0, 0, 1<<20+1)), nil)), api.ErrArg},
		{box(discs(nil, in(disc(math.MinInt, 0, 0)))), api.ErrArg}, {box(discs(nil, in(disc(0, math.MaxInt, 0)))), api.ErrArg}, {box(discs(nil, in(disc(0, 0, math.MinInt)))), api.ErrArg}, {box(discs(four, in(disc(0, 0, 1), disc(0, 0, -1)))), api.ErrArg}, {box(api.Side{Name: "d", Kind: api.Point, None: true, Outs: in(disc(0, 0, -1))}), api.ErrArg},
		// Where several apply, the one that is named first.
		{box(api.Side{}), api.ErrName}, {box(low(0, 1), api.Side{Name: "a"}), api.ErrForm}, {box(api.Side{Name: "a"}, low(0, 1)), api.ErrType}, {box(discs(in(disc(0, 0, -1)), five)), api.ErrLimit}, {box(discs(in(disc(0, 0, -1)), nil), api.Side{}), api.ErrArg}, {box(named("e", low(0, 1)), discs(five, nil)), api.ErrForm},
	}
}

// rights are right boxes, no two of them the same.
func rights() [][]api.Side {
	four := in(disc(0, 0, 1), disc(0, 0, 2), disc(0, 0, 3), disc(1<<20, -1<<20, 1<<20))
	return boxes(
		nil, box(low(0, 5)), box(low(least, greatest)), box(low(5, 0)), box(low(1, 0)), box(orNone(low(0, 5))), box(orNone(low(1, 0))), box(low(-3, 3)), box(named("e", low(0, 5))), box(low(0, 5), named("e", low(0, 5))), wide(8),
		box(text("", "")), box(text("a", "b")), box(text("b", "a")), box(text("", "b")), box(open("")), box(open("b")), box(orNone(open("b"))), box(text(long(201), long(202))), box(text("ab", "b")), box(orNone(text("", ""))),
		box(bits(0)), box(bits(1)), box(bits(2)), box(bits(3)), box(orNone(bits(2))), box(bits(252)), box(bits(253)),
		box(discs(nil, nil)), box(noPoint()), box(orNone(noPoint())), box(orNone(discs(nil, nil))), box(discs(in(disc(0, 0, 5)), nil)), box(discs(in(disc(3, 0, 2)), nil)), box(discs(nil, in(disc(0, 0, 5)))), box(discs(nil, in(disc(3, 0, 2)))), box(discs(in(disc(9, 9, 3)), in(disc(9, 9, 1)))), box(discs(four, four)), box(api.Side{Name: "d", Kind: api.Point, None: true, Ins: four}), box(discs(in(disc(0, 0, 1), disc(9, 9, 1)), nil)),
		box(low(0, 5), bits(2), text("a", "b"), discs(in(disc(0, 0, 5)), nil)), box(orNone(low(0, 9)), orNone(bits(2)), open("")), box(named("a", bits(2))), box(named("a", open("a"))),
	)
}

// P6.1
func TestCheckBox(t *testing.T) {
	for _, b := range rights() {
		if fault := cover.CheckBox(b); fault != api.OK {
			t.Fatalf("CheckBox(%+v): error %d", b, fault)
		}
	}
	for _, w := range wrongs() {
		if fault := cover.CheckBox(w.b); fault != w.want {
			t.Fatalf("CheckBox(%+v): error %d, wanted %d", w.b, fault, w.want)
		}
	}
	junk := low(5, 0)
	junk.Ins, junk.Outs, junk.None, junk.Truths = in(disc(0, 0, -1)), make([]api.Disc, 9), true, 255
	if fault := cover.CheckBox(box(junk, named(longName, low(0, 0)))); fault != api.OK {
		t.Fatalf("fields of other kinds count: error %d", fault)
	}
}

// P6.1
func TestLets(t *testing.T) {
	ring := discs(in(disc(0, 0, 5), disc(3, 0, 5)), in(disc(0, 0, 2), disc(5, 0, 0)))
	for _, c := range []struct {
		b    []api.Side
		e    api.Event
		want bool
	}{
		{nil, of(), true}, {nil, of(attr("a", whole(1))), true}, {box(low(0, 5)), of(), false}, {box(orNone(low(0, 5))), of(), true}, {box(orNone(low(1, 0))), of(), true}, {box(orNone(low(0, 5))), of(attr("e", whole(9))), true},
		{box(low(0, 5)), of(attr("a", whole(0))), true}, {box(low(0, 5)), of(attr("a", whole(5))), true}, {box(low(0, 5)), of(attr("a", whole(-1))), false}, {box(low(0, 5)), of(attr("a", whole(6))), false}, {box(orNone(low(0, 5))), of(attr("a", whole(6))), false}, {box(low(1, 0)), of(attr("a", whole(1))), false}, {box(low(least, greatest)), of(attr("a", whole(least))), true},
		// Of another kind.
		{box(orNone(low(0, 5))), of(attr("a", words(""))), false}, {box(orNone(low(0, 5))), of(attr("a", truth(true))), false}, {box(named("a", discs(nil, nil))), of(attr("a", whole(0))), false}, {box(named("a", open(""))), of(attr("a", point(0, 0))), false},
		{box(text("ab", "b")), of(attr("c", words("ab"))), true}, {box(text("ab", "b")), of(attr("c", words("b"))), false}, {box(text("ab", "b")), of(attr("c", words("az"))), true}, {box(text("ab", "b")), of(attr("c", words("aa"))), false}, {box(text("ab", "b")), of(attr("c", words("a\xff\xff"))), true}, {box(text("", "")), of(attr("c", words(""))), false}, {box(open("")), of(attr("c", words(""))), true}, {box(open("b")), of(attr("c", words("\xff"))), true}, {box(open("b")), of(attr("c", words("azz"))), false},
		{box(text(long(200), long(200)+"\x00")), of(attr("c", words(long(200)))), true}, {box(open(long(200) + "\x00")), of(attr("c", words(long(200)))), false}, {box(open(long(200) + "\x00")), of(attr("c", words("y"))), true}, {box(api.Side{Name: "c", Kind: api.Words, From: "b", To: "a", Open: true}), of(attr("c", words("c"))), true},
		{box(bits(2)), of(attr("b", truth(true))), true}, {box(bits(2)), of(attr("b", truth(false))), false}, {box(bits(1)), of(attr("b", truth(true))), false}, {box(bits(1)), of(attr("b", truth(false))), true}, {box(bits(3)), of(attr("b", truth(false))), true}, {box(bits(0)), of(attr("b", truth(false))), false}, {box(bits(252)), of(attr("b", truth(true))), false}, {box(bits(254)), of(attr("b", truth(true))), true},
		{box(discs(nil, nil)), of(attr("d", point(1<<20, 1<<20))), true}, {box(noPoint()), of(attr("d", point(0, 0))), false}, {box(orNone(noPoint())), of(), true}, {box(discs(in(disc(0, 0, 5)), nil)), of(attr("d", point(3, 4))), true}, {box(discs(in(disc(0, 0, 5)), nil)), of(attr("d", point(4, 4))), false}, {box(discs(in(disc(0, 0, 0)), nil)), of(attr("d", point(0, 0))), true}, {box(discs(nil, in(disc(0, 0, 5)))), of(attr("d", point(3, 4))), false}, {box(discs(nil, in(disc(0, 0, 5)))), of(attr("d", point(4, 4))), true},
		{box(ring), of(attr("d", point(3, 4))), true}, {box(ring), of(attr("d", point(5, 0))), false}, {box(ring), of(attr("d", point(2, 0))), false}, {box(ring), of(attr("d", point(-3, 0))), false}, {box(ring), of(attr("d", point(6, 0))), false}, {box(ring), of(attr("d", point(0, 3))), true}, {box(discs(in(disc(-1<<20, -1<<20, 1<<20)), nil)), of(attr("d", point(1<<20, 1<<20))), false},
		// All sides count.
		{box(low(0, 5), bits(2)), of(attr("a", whole(1)), attr("b", truth(true))), true}, {box(low(0, 5), bits(2)), of(attr("a", whole(1)), attr("b", truth(false))), false}, {box(low(0, 5), bits(2)), of(attr("a", whole(6)), attr("b", truth(true))), false}, {box(low(0, 5), orNone(bits(2))), of(attr("a", whole(1))), true}, {box(low(0, 5), bits(2)), of(attr("a", whole(1))), false},
	} {
		if lets, fault := cover.Lets(c.b, c.e); fault != api.OK || lets != c.want {
			t.Fatalf("Lets(%+v, %v): %v, error %d", c.b, c.e, lets, fault)
		}
	}
	bad := of(attr("b", whole(1)), attr("a", whole(1)))
	for _, w := range wrongs() {
		for _, e := range []api.Event{of(), bad} {
			if lets, fault := cover.Lets(w.b, e); lets || fault != w.want {
				t.Fatalf("Lets(%+v, %v): %v, error %d, wanted %d", w.b, e, lets, fault, w.want)
			}
		}
	}
	for _, e := range []api.Event{bad, of(attr("", whole(1))), {Content: make([]byte, 201)}, of(attr("a", api.Value{}))} {
		if lets, fault := cover.Lets(nil, e); lets || fault != event.Check(e) {
			t.Fatalf("Lets of %v: %v, error %d", e, lets, fault)
		}
	}
}

// P6.2: of each row, is the first box Inside the second one, and this one Inside the first one?
func TestInside(t *testing.T) {
	d := func(ins, outs []api.Disc) []api.Side { return box(discs(ins, outs)) }
	odd := func(from, to string) []api.Side {
		return box(api.Side{Name: "c", Kind: api.Words, From: from, To: to, Open: true})
	}
	for _, c := range []struct {
		a, b         []api.Side
		there, again bool
	}{
		{nil, nil, true, true}, {box(low(0, 5)), nil, true, false}, {box(low(0, 5), bits(2)), box(low(0, 5)), true, false}, {box(low(0, 5), bits(2)), box(bits(2)), true, false}, {box(low(0, 5)), box(bits(2)), false, false}, {box(low(1, 0)), box(bits(2)), false, false},
		{box(low(1, 4)), box(low(0, 5)), true, false}, {box(low(0, 5)), box(low(0, 5)), true, true}, {box(low(0, 4)), box(low(0, 5)), true, false}, {box(low(1, 5)), box(low(0, 5)), true, false}, {box(low(-1, 4)), box(low(0, 5)), false, false}, {box(low(1, 6)), box(low(0, 5)), false, false}, {box(low(least, greatest)), box(low(least, greatest-1)), false, true},
		// A side that is Absent, and one with nothing within.
		{box(low(0, 5)), box(orNone(low(0, 5))), true, false}, {box(orNone(low(0, 5))), box(orNone(low(0, 9))), true, false}, {box(orNone(low(1, 0))), box(low(0, 9)), false, false}, {box(low(1, 0)), box(low(7, 9)), true, false}, {box(low(9, 7)), box(low(3, 1)), true, true}, {box(orNone(low(1, 0))), box(orNone(low(7, 9))), true, false}, {box(orNone(low(1, 0))), box(low(1, 0)), false, true},
		// Of another kind, or another name.
		{box(low(0, 5)), box(named("a", bits(3))), false, false}, {box(low(1, 0)), box(named("a", bits(3))), false, false}, {box(low(0, 5)), box(named("aa", low(0, 5))), false, false},
		{box(text("a", "b")), box(text("a", "c")), true, false}, {box(text("b", "c")), box(text("a", "c")), true, false}, {box(text("a", "b")), box(open("a")), true, false}, {box(text("a", "b")), box(open("aa")), false, false}, {box(open("b")), box(open("a")), true, false}, {box(open("a")), box(open("a")), true, true}, {box(text("", "")), box(text("x", "y")), true, false}, {box(text("b", "a")), box(open("zz")), true, false}, {box(text("a", "a")), box(text("x", "y")), true, false}, {box(text("a", long(300))), box(text("a", long(301))), true, false},
		{odd("b", "a"), box(open("b")), true, true}, {odd("b", ""), box(text("b", "c")), false, true}, {odd("b", "c"), box(text("b", "c")), false, true}, {odd("b", "c"), box(text("a", "d")), false, false},
		{box(bits(1)), box(bits(3)), true, false}, {box(bits(2)), box(bits(1)), false, false}, {box(bits(0)), box(bits(1)), true, false}, {box(bits(3)), box(bits(3)), true, true}, {box(bits(255)), box(bits(3)), true, true}, {box(bits(252)), box(bits(0)), true, true}, {box(bits(253)), box(bits(3)), true, false},
		{d(nil, nil), box(noPoint()), false, true}, {box(noPoint()), box(noPoint()), true, true}, {box(noPoint()), d(in(disc(0, 0, 1)), nil), true, false}, {box(orNone(noPoint())), d(nil, nil), false, false}, {box(api.Side{Name: "d", Kind: api.Point, None: true, Outs: in(disc(0, 0, 1))}), d(in(disc(8, 8, 1)), nil), true, false},
		{d(in(disc(3, 0, 2)), nil), d(in(disc(0, 0, 5)), nil), true, false}, {d(in(disc(3, 0, 3)), nil), d(in(disc(0, 0, 5)), nil), false, false}, {d(in(disc(3, 4, 0)), nil), d(in(disc(0, 0, 5)), nil), true, false}, {d(in(disc(3, 5, 0)), nil), d(in(disc(0, 0, 5)), nil), false, false}, {d(in(disc(0, 0, 5)), nil), d(nil, nil), true, false}, {d(in(disc(0, 0, 5), disc(9, 0, 5)), nil), d(in(disc(0, 0, 6)), nil), true, false}, {d(in(disc(0, 0, 5), disc(9, 0, 5)), nil), d(in(disc(0, 0, 6), disc(9, 1, 7)), nil), true, false}, {d(in(disc(0, 0, 5)), nil), d(in(disc(0, 0, 6), disc(9, 0, 5)), nil), false, false}, {d(in(disc(1, 0, 7)), nil), d(in(disc(0, 0, 5)), nil), false, true},
		{d(nil, in(disc(0, 0, 5))), d(nil, in(disc(3, 0, 2))), true, false}, {d(nil, in(disc(0, 0, 5))), d(nil, in(disc(3, 0, 3))), false, false}, {d(nil, in(disc(0, 0, 5))), d(nil, nil), true, false}, {d(nil, in(disc(0, 0, 5), disc(9, 9, 1))), d(nil, in(disc(9, 9, 0), disc(0, 1, 4))), true, false}, {d(nil, in(disc(0, 0, 5))), d(nil, in(disc(0, 1, 4), disc(9, 9, 0))), false, false},
		{d(in(disc(0, 0, 5)), nil), d(nil, in(disc(10, 0, 4))), true, false}, {d(in(disc(0, 0, 5)), nil), d(nil, in(disc(10, 0, 5))), false, false}, {d(in(disc(0, 0, 5)), in(disc(4, 0, 6))), d(in(disc(0, 0, 5)), in(disc(4, 0, 5), disc(20, 0, 5))), true, false}, {d(in(disc(0, 0, 50), disc(0, 0, 5)), nil), d(nil, in(disc(10, 0, 4))), true, false},
		{d(in(disc(1<<20, 1<<20, 1<<20)), nil), d(nil, in(disc(-1<<20, -1<<20, 1<<20))), true, false}, {d(in(disc(1<<20, 0, 1<<20)), nil), d(nil, in(disc(-1<<20, 0, 1<<20))), false, false},
	} {
		for _, x := range []struct {
			a, b []api.Side
			want bool
		}{{c.a, c.b, c.there}, {c.b, c.a, c.again}} {
			if is, fault := cover.Inside(x.a, x.b); fault != api.OK || is != x.want {
				t.Fatalf("Inside(%+v, %+v): %v, error %d", x.a, x.b, is, fault)
			}
		}
	}
	for i, w := range wrongs() {
		other := wrongs()[(i+7)%len(wrongs())]
		if is, fault := cover.Inside(w.b, other.b); is || fault != w.want {
			t.Fatalf("Inside of %+v: %v, error %d, wanted %d", w.b, is, fault, w.want)
		}
		if is, fault := cover.Inside(nil, w.b); is || fault != w.want {
			t.Fatalf("Inside within %+v: %v, error %d, wanted %d", w.b, is, fault, w.want)
		}
	}
}

// P6.3
func TestCovers(t *testing.T) {
	for _, c := range []struct {
		p, q         string
		there, again bool
	}{
		{`c^"ab"`, `c="abc"`, true, false}, {"d~(0,0)/5", "d~(3,0)/2", true, false}, {"d~(0,0)/5", "d~(3,0)/3", false, false}, {"?a", "a<5 | a>7", true, false}, {"!?a", "a<5 & a>7", true, false}, {"!(a<5)", "a>=5", true, false},
		{"*", "#", true, false}, {"*", "a=1", true, false}, {"#", "#", true, true}, {"*", "*", true, true}, {"a<9 | e=1", "a<5 | a=7 | e=1", true, false}, {"a<9 | e=1", "a<5 | e=2", false, false}, {"a<9", "a<5 & e=1", true, false}, {"b", "b=yes", true, true}, {"b | b=no", "?b", false, true}, {"?b", "b & c=\"\"", true, false},
		{"a<5 | a>=5", "?a", false, true}, {"?d", "d=(1,1)", true, false}, {"d!=(1,1)", "d=(2,1)", true, false}, {"d!=(1,1)", "d~(2,1)/1", false, false}, {`c^""`, "?c", true, true}, {`c>="b"`, `c^"b"`, true, false}, {`c^"a"`, `c>="a" & c<"b"`, true, true},
	} {
		for _, x := range []struct {
			p, q string
			want bool
		}{{c.p, c.q, c.there}, {c.q, c.p, c.again}} {
			if is, fault := cover.Covers(schema(), terms(t, x.p), terms(t, x.q)); fault != api.OK || is != x.want {
				t.Fatalf("Covers(%q, %q): %v, error %d", x.p, x.q, is, fault)
			}
		}
	}
	right := terms(t, "*")
	many := terms(t, strings.Repeat("a=1 | ", 16)+"a=1")
	for _, c := range []struct {
		p, q []api.Term
		want api.Errno
	}{
		{terms(t, "z"), terms(t, "a"), api.ErrGone}, {terms(t, "a"), terms(t, "z"), api.ErrType}, {right, terms(t, "z"), api.ErrGone}, {nil, terms(t, "z"), api.ErrForm}, {right, nil, api.ErrForm}, {many, terms(t, "z"), api.ErrLimit}, {right, many, api.ErrLimit},
	} {
		if is, fault := cover.Covers(schema(), c.p, c.q); is || fault != c.want {
			t.Fatalf("Covers(%v, %v): %v, error %d, wanted %d", c.p, c.q, is, fault, c.want)
		}
	}
	if is, fault := cover.Covers(make([]api.Field, 9), right, right); is || fault != api.ErrLimit {
		t.Fatalf("Covers of nine fields: %v, error %d", is, fault)
	}
}

// P6.3
func TestUnion(t *testing.T) {
	for _, c := range []struct {
		ps   []string
		want [][]api.Side
	}{
		{nil, nil}, {[]string{"#"}, nil}, {[]string{"*"}, boxes(nil)}, {[]string{"#", "*", "a=1"}, boxes(nil)}, {[]string{"a=1", "e=1", "*"}, boxes(nil)},
		{[]string{"a<5", "a<9", "a=3", `c<"x"`}, boxes(box(low(least, 8)), box(text("", "x")))}, {[]string{"a=1", `c<"x"`, "a=3", "a<9", "a=5"}, boxes(box(text("", "x")), box(low(least, 8)))}, {[]string{"a=1", "a=1"}, boxes(box(low(1, 1)))}, {[]string{"a=3 | a=1", "a=2", "a=1"}, boxes(box(low(3, 3)), box(low(1, 1)), box(low(2, 2)))},
		{[]string{"a=1 | b", "a>0 & a<4 | c=\"\""}, boxes(box(bits(2)), box(low(1, 3)), box(text("", "\x00")))}, {[]string{"a<5", "!(a>=5)"}, boxes(box(orNone(low(least, 4))))}, {[]string{"!(a>=5)", "a<5"}, boxes(box(orNone(low(least, 4))))}, {[]string{"a<5 & b", "a<3", "b"}, boxes(box(low(least, 2)), box(bits(2)))},
	} {
		var ps [][]api.Term
		for _, text := range c.ps {
			ps = append(ps, terms(t, text))
		}
		if l, fault := cover.Union(schema(), ps...); fault != api.OK || !sameBoxes(l, c.want) {
			t.Fatalf("Union(%q): %+v, error %d", c.ps, l, fault)
		}
	}
}

// equals is a predicate of each number from from on, n of them.
func equals(from, n int) [][]api.Term {
	var ps [][]api.Term
	for i := range n {
		ps = append(ps, []api.Term{{Op: api.Atom, Name: "a", Cmp: api.Equal, Value: whole(int64(from + i))}})
	}
	return ps
}

// P6.3: about as many boxes as may be; how many there were on the way plays no part.
func TestUnionLimit(t *testing.T) {
	for _, c := range []struct {
		ps   [][]api.Term
		want int
	}{
		{equals(0, 32), 32}, {append(equals(0, 32), equals(0, 32)...), 32}, {append(equals(0, 40), terms(t, "a>=1 & a<200")), 2}, {append(equals(0, 40), terms(t, "a>=8 & a<200")), 9}, {append(equals(0, 40), terms(t, "a>=7 & a<9")), 1},
	} {
		l, fault := cover.Union(schema(), c.ps...)
		if fault != api.OK || len(l) != c.want {
			t.Fatalf("Union of %d predicates: %d boxes, error %d, wanted %d", len(c.ps), len(l), fault, c.want)
		}
	}
	for _, n := range []int{33, 34, 100} {
		if l, fault := cover.Union(schema(), equals(0, n)...); fault != api.OK || len(l) != 1 || len(l[0]) != 0 {
			t.Fatalf("Union of %d boxes: %+v, error %d", n, l, fault)
		}
	}
}

// P6.3: the first error.
func TestUnionFaults(t *testing.T) {
	right, gone, kind := terms(t, "a=1"), terms(t, "?z"), terms(t, "a")
	many := terms(t, strings.Repeat("a=1 | ", 16)+"a=1")
	for _, c := range []struct {
		ps   [][]api.Term
		want api.Errno
	}{
		{[][]api.Term{gone}, api.ErrGone}, {[][]api.Term{right, kind, gone}, api.ErrType}, {[][]api.Term{right, gone, kind}, api.ErrGone}, {[][]api.Term{right, nil}, api.ErrForm}, {[][]api.Term{many, gone}, api.ErrLimit}, {append(equals(0, 50), gone), api.ErrGone}, {[][]api.Term{terms(t, "*"), gone}, api.ErrGone},
	} {
		if l, fault := cover.Union(schema(), c.ps...); len(l) != 0 || fault != c.want {
			t.Fatalf("Union(%v): %+v, error %d, wanted %d", c.ps, l, fault, c.want)
		}
	}
	if l, fault := cover.Union(make([]api.Field, 9), right); len(l) != 0 || fault != api.ErrLimit {
		t.Fatalf("Union of nine fields: %+v, error %d", l, fault)
	}
}
