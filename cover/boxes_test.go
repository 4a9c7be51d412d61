package cover_test

import (
	"fmt"
	"math"
	"slices"
	"strings"
	"testing"

	"grapevine/api"
	"grapevine/cover"
	"grapevine/pred"
)

// P6.1: of each atom its own boxes, and its contrary's.
func TestBoxesOfAtoms(t *testing.T) {
	full := long(200)
	for _, c := range []struct {
		text          string
		own, contrary [][]api.Side
	}{
		{"*", boxes(nil), nil}, {"#", nil, boxes(nil)},
		{"?a", boxes(box(low(least, greatest))), boxes(box(orNone(low(1, 0))))}, {"?b", boxes(box(bits(3))), boxes(box(orNone(bits(0))))}, {"?c", boxes(box(open(""))), boxes(box(orNone(text("", ""))))}, {"?d", boxes(box(discs(nil, nil))), boxes(box(orNone(noPoint())))},
		{"b", boxes(box(bits(2))), boxes(box(orNone(bits(1))))}, {"b=yes", boxes(box(bits(2))), boxes(box(orNone(bits(1))))}, {"b=no", boxes(box(bits(1))), boxes(box(orNone(bits(2))))}, {"b!=yes", boxes(box(bits(1))), boxes(box(orNone(bits(2))))}, {"b!=no", boxes(box(bits(2))), boxes(box(orNone(bits(1))))},
		// Whole numbers, and the last ones of them.
		{"a=5", boxes(box(low(5, 5))), boxes(box(orNone(low(least, 4))), box(low(6, greatest)))}, {"a!=5", boxes(box(low(least, 4)), box(low(6, greatest))), boxes(box(orNone(low(5, 5))))}, {"a<5", boxes(box(low(least, 4))), boxes(box(orNone(low(5, greatest))))}, {"a<=5", boxes(box(low(least, 5))), boxes(box(orNone(low(6, greatest))))}, {"a>5", boxes(box(low(6, greatest))), boxes(box(orNone(low(least, 5))))}, {"a>=5", boxes(box(low(5, greatest))), boxes(box(orNone(low(least, 4))))},
		{"a=MIN", boxes(box(low(least, least))), boxes(box(orNone(low(1, 0))), box(low(least+1, greatest)))}, {"a!=MIN", boxes(box(low(least+1, greatest))), boxes(box(orNone(low(least, least))))}, {"a<MIN", nil, boxes(box(orNone(low(least, greatest))))}, {"a<=MIN", boxes(box(low(least, least))), boxes(box(orNone(low(least+1, greatest))))}, {"a>MIN", boxes(box(low(least+1, greatest))), boxes(box(orNone(low(least, least))))}, {"a>=MIN", boxes(box(low(least, greatest))), boxes(box(orNone(low(1, 0))))},
		{"a=MAX", boxes(box(low(greatest, greatest))), boxes(box(orNone(low(least, greatest-1))))}, {"a!=MAX", boxes(box(low(least, greatest-1))), boxes(box(orNone(low(greatest, greatest))))}, {"a<MAX", boxes(box(low(least, greatest-1))), boxes(box(orNone(low(greatest, greatest))))}, {"a<=MAX", boxes(box(low(least, greatest))), boxes(box(orNone(low(1, 0))))}, {"a>MAX", nil, boxes(box(orNone(low(least, greatest))))}, {"a>=MAX", boxes(box(low(greatest, greatest))), boxes(box(orNone(low(least, greatest-1))))},
		// Words, and the first one of them.
		{`c="v"`, boxes(box(text("v", "v\x00"))), boxes(box(orNone(text("", "v"))), box(open("v\x00")))}, {`c!="v"`, boxes(box(text("", "v")), box(open("v\x00"))), boxes(box(orNone(text("v", "v\x00"))))}, {`c<"v"`, boxes(box(text("", "v"))), boxes(box(orNone(open("v"))))}, {`c<="v"`, boxes(box(text("", "v\x00"))), boxes(box(orNone(open("v\x00"))))}, {`c>"v"`, boxes(box(open("v\x00"))), boxes(box(orNone(text("", "v\x00"))))}, {`c>="v"`, boxes(box(open("v"))), boxes(box(orNone(text("", "v"))))},
		{`c=""`, boxes(box(text("", "\x00"))), boxes(box(orNone(text("", ""))), box(open("\x00")))}, {`c!=""`, boxes(box(open("\x00"))), boxes(box(orNone(text("", "\x00"))))}, {`c<""`, nil, boxes(box(orNone(open(""))))}, {`c<=""`, boxes(box(text("", "\x00"))), boxes(box(orNone(open("\x00"))))}, {`c>""`, boxes(box(open("\x00"))), boxes(box(orNone(text("", "\x00"))))}, {`c>=""`, boxes(box(open(""))), boxes(box(orNone(text("", ""))))},
		{`c<="` + full + `"`, boxes(box(text("", full+"\x00"))), boxes(box(orNone(open(full + "\x00"))))},
		{`c^"ab"`, boxes(box(text("ab", "ac"))), boxes(box(orNone(text("", "ab"))), box(open("ac")))}, {`c^""`, boxes(box(open(""))), boxes(box(orNone(text("", ""))))}, {`c^"\xff"`, boxes(box(open("\xff"))), boxes(box(orNone(text("", "\xff"))))}, {`c^"\xff\xff"`, boxes(box(open("\xff\xff"))), boxes(box(orNone(text("", "\xff\xff"))))}, {`c^"a\xff\xff"`, boxes(box(text("a\xff\xff", "b"))), boxes(box(orNone(text("", "a\xff\xff"))), box(open("b")))}, {`c^"\x00"`, boxes(box(text("\x00", "\x01"))), boxes(box(orNone(text("", "\x00"))), box(open("\x01")))}, {`c^"a\xfe"`, boxes(box(text("a\xfe", "a\xff"))), boxes(box(orNone(text("", "a\xfe"))), box(open("a\xff")))}, {`c^"\xffa\xff"`, boxes(box(text("\xffa\xff", "\xffb"))), boxes(box(orNone(text("", "\xffa\xff"))), box(open("\xffb")))}, {`c^"a\x80\xff"`, boxes(box(text("a\x80\xff", "a\x81"))), boxes(box(orNone(text("", "a\x80\xff"))), box(open("a\x81")))},
		{"d~(1,-2)/3", boxes(box(discs(in(disc(1, -2, 3)), nil))), boxes(box(orNone(discs(nil, in(disc(1, -2, 3))))))}, {"d~(0,0)/0", boxes(box(discs(in(disc(0, 0, 0)), nil))), boxes(box(orNone(discs(nil, in(disc(0, 0, 0))))))}, {"d=(1,-2)", boxes(box(discs(in(disc(1, -2, 0)), nil))), boxes(box(orNone(discs(nil, in(disc(1, -2, 0))))))}, {"d!=(1,-2)", boxes(box(discs(nil, in(disc(1, -2, 0))))), boxes(box(orNone(discs(in(disc(1, -2, 0)), nil))))}, {"d~(-1048576,1048576)/1048576", boxes(box(discs(in(disc(-1<<20, 1<<20, 1<<20)), nil))), boxes(box(orNone(discs(nil, in(disc(-1<<20, 1<<20, 1<<20))))))},
	} {
		text := strings.NewReplacer("MIN", fmt.Sprint(math.MinInt64), "MAX", fmt.Sprint(math.MaxInt64)).Replace(c.text)
		if l := mustBoxes(t, terms(t, text)); !sameBoxes(l, c.own) {
			t.Fatalf("Boxes(%q): %+v, wanted %+v", text, l, c.own)
		}
		if l := mustBoxes(t, terms(t, "!("+text+")")); !sameBoxes(l, c.contrary) {
			t.Fatalf("Boxes of not %q: %+v, wanted %+v", text, l, c.contrary)
		}
		if l := mustBoxes(t, terms(t, "!!("+text+")")); !sameBoxes(l, c.own) {
			t.Fatalf("Boxes of not not %q: %+v", text, l)
		}
	}
	junk := []api.Term{{Op: api.Atom, Name: "d", Cmp: api.Equal, Value: api.Value{Kind: api.Point, Point: complex(math.Copysign(0, -1), 2), Whole: 5, Words: "x"}, Radius: 7}}
	if l := mustBoxes(t, junk); !sameBoxes(l, boxes(box(discs(in(disc(0, 2, 0)), nil)))) {
		t.Fatalf("what counts for nothing counts: %+v", l)
	}
	if l := mustBoxes(t, []api.Term{{Op: api.Atom, Name: "a", Cmp: api.Has, Value: truth(true), Radius: 7}}); !sameBoxes(l, boxes(box(low(least, greatest)))) {
		t.Fatalf("a Has has a value: %+v", l)
	}
}

// P6.1: meets, and lists one behind the other.
func TestBoxesOfTerms(t *testing.T) {
	ae := func(a, e api.Side) []api.Side { return box(a, named("e", e)) }
	for _, c := range []struct {
		text string
		want [][]api.Side
	}{
		{"* & *", boxes(nil)}, {"* & #", nil}, {"* | *", boxes(nil, nil)}, {"# | *", boxes(nil)}, {"!(* | #)", nil}, {"!(# | #)", boxes(nil)}, {"!(* & #)", boxes(nil)}, {"!(# & #)", boxes(nil, nil)},
		{"a>1 & a<9", boxes(box(low(2, 8)))}, {"a<9 & a>1", boxes(box(low(2, 8)))}, {"a>1 & a<2", nil}, {"a>=2 & a<=2", boxes(box(low(2, 2)))}, {"a>5 | a<3", boxes(box(low(6, greatest)), box(low(least, 2)))}, {"a=1 & e=2", boxes(ae(low(1, 1), low(2, 2)))}, {"e=2 & a=1", boxes(ae(low(1, 1), low(2, 2)))}, {"* & a=1", boxes(box(low(1, 1)))}, {"a=1 & *", boxes(box(low(1, 1)))},
		{"e=1 & b & a=1 & c=\"\" & d=(1,1)", boxes(box(low(1, 1), bits(2), text("", "\x00"), discs(in(disc(1, 1, 0)), nil), named("e", low(1, 1))))},
		// The first one's first box with all of the second one's.
		{"(a=1 | a=2) & (e=3 | e=4 | e=5)", boxes(ae(low(1, 1), low(3, 3)), ae(low(1, 1), low(4, 4)), ae(low(1, 1), low(5, 5)), ae(low(2, 2), low(3, 3)), ae(low(2, 2), low(4, 4)), ae(low(2, 2), low(5, 5)))}, {"(a=1 | a=2 | a=3) & (a=3 | a=1)", boxes(box(low(1, 1)), box(low(3, 3)))}, {"!((a!=1 & a!=2) | e=3)", boxes(ae(orNone(low(1, 1)), orNone(low(least, 2))), ae(orNone(low(1, 1)), low(4, greatest)), ae(orNone(low(2, 2)), orNone(low(least, 2))), ae(orNone(low(2, 2)), low(4, greatest)))},
		{"!(a=5 & e=6)", boxes(box(orNone(low(least, 4))), box(low(6, greatest)), box(named("e", orNone(low(least, 5)))), box(named("e", low(7, greatest))))}, {"!(a<5 | a>7)", boxes(box(orNone(low(5, 7))))},
		// Absent, if both are; empty, if not Absent.
		{"!(a<5) & a>7", boxes(box(low(8, greatest)))}, {"a>7 & !(a<5)", boxes(box(low(8, greatest)))}, {"!(a<5) & !(a>3)", boxes(box(orNone(low(1, 0))))}, {"!(a<5) & a<=3", nil}, {"!?a & ?a", nil}, {"!?a & !?a", boxes(box(orNone(low(1, 0))))}, {"!?a & !(a=5)", boxes(box(orNone(low(1, 0))))}, {"!(a<5) & !(a>3) & e=1", boxes(ae(orNone(low(1, 0)), low(1, 1)))}, {"!(a<5) & !(a>3) & a=1", nil},
		{"!?b & !b", boxes(box(orNone(bits(0))))}, {"!b & !(b=no)", boxes(box(orNone(bits(0))))}, {"b & b=no", nil}, {"?b & b=no", boxes(box(bits(1)))}, {"!b & ?b", boxes(box(bits(1)))},
		{`c>"b" & c<"x"`, boxes(box(text("b\x00", "x")))}, {`c<"x" & c>"b"`, boxes(box(text("b\x00", "x")))}, {`c<"x" & c<"d"`, boxes(box(text("", "d")))}, {`c<"d" & c<"x"`, boxes(box(text("", "d")))}, {`c>="x" & c>="d"`, boxes(box(open("x")))}, {`c>="d" & c>="x"`, boxes(box(open("x")))}, {`c^"ab" & c^"abc"`, boxes(box(text("abc", "abd")))}, {`c^"ab" & c^"b"`, nil}, {`c<"d" & c>="d"`, nil}, {`!(c<"d") & !(c>="d")`, boxes(box(orNone(text("", ""))))}, {`!?c & !(c^"x")`, boxes(box(orNone(text("", ""))))},
		// Discs.
		{"d~(0,0)/5 & d~(3,0)/4", boxes(box(discs(in(disc(0, 0, 5), disc(3, 0, 4)), nil)))}, {"d~(3,0)/4 & d~(0,0)/5", boxes(box(discs(in(disc(3, 0, 4), disc(0, 0, 5)), nil)))}, {"d~(0,0)/5 & d~(0,0)/5", boxes(box(discs(in(disc(0, 0, 5)), nil)))}, {"d~(0,0)/5 & d~(1,0)/5 & (d~(1,0)/5 & d~(2,0)/5 & d~(0,0)/5)", boxes(box(discs(in(disc(0, 0, 5), disc(1, 0, 5), disc(2, 0, 5)), nil)))}, {"d!=(0,0) & d!=(1,1) & d!=(0,0)", boxes(box(discs(nil, in(disc(0, 0, 0), disc(1, 1, 0)))))},
		{"d~(0,0)/5 & d~(10,0)/5", boxes(box(discs(in(disc(0, 0, 5), disc(10, 0, 5)), nil)))}, {"d~(0,0)/5 & d~(10,0)/4", nil}, {"d~(0,0)/5 & d~(10,1)/5", nil}, {"d~(0,0)/9 & d~(8,0)/9 & d~(20,0)/10", nil}, {"d~(0,0)/5 & d!=(0,0)", boxes(box(discs(in(disc(0, 0, 5)), in(disc(0, 0, 0)))))}, {"d=(0,0) & d!=(0,0)", nil}, {"d~(3,0)/2 & !(d~(0,0)/5)", nil}, {"d~(3,0)/3 & !(d~(0,0)/5)", boxes(box(discs(in(disc(3, 0, 3)), in(disc(0, 0, 5)))))}, {"!(d~(0,0)/5) & d~(3,0)/2", nil}, {"!(d~(0,0)/5) & d~(3,0)/7", boxes(box(discs(in(disc(3, 0, 7)), in(disc(0, 0, 5)))))}, {"d~(1,0)/6 & !(d~(0,0)/5)", boxes(box(discs(in(disc(1, 0, 6)), in(disc(0, 0, 5)))))},
		{"!(d~(0,0)/5) & !(d!=(3,4))", boxes(box(orNone(noPoint())))}, {"!(d!=(3,4)) & !(d!=(3,5))", boxes(box(orNone(noPoint())))}, {"!(d!=(3,4)) & !(d!=(3,4))", boxes(box(orNone(discs(in(disc(3, 4, 0)), nil))))}, {"!?d & !(d=(1,1))", boxes(box(orNone(noPoint())))}, {"!(d=(1,1)) & !?d", boxes(box(orNone(noPoint())))}, {"!?d & d=(1,1)", nil}, {"?d & !(d=(1,1))", boxes(box(discs(nil, in(disc(1, 1, 0)))))},
	} {
		if l := mustBoxes(t, terms(t, c.text)); !sameBoxes(l, c.want) {
			t.Fatalf("Boxes(%q): %+v, wanted %+v", c.text, l, c.want)
		}
	}
}

// either is n numbers of a name with | between.
func either(name string, n int) string {
	var l []string
	for i := range n {
		l = append(l, fmt.Sprintf("%s=%d", name, i+1))
	}
	return "(" + strings.Join(l, "|") + ")"
}

// row is n units with & between, each with a number, from from on.
func row(form string, from, n int) string {
	var l []string
	for i := range n {
		l = append(l, fmt.Sprintf(form, from+i))
	}
	return "(" + strings.Join(l, "&") + ")"
}

// P6.1: the errors, and about as many boxes and discs as may be.
func TestBoxesLimits(t *testing.T) {
	for _, c := range []struct {
		text string
		want int // boxes; below 0: ErrLimit
	}{
		{either("a", 16), 16}, {either("a", 17), -1}, {either("a", 16) + "|#", 16}, {either("a", 16) + "|*", -1}, {either("a", 4) + "&" + either("e", 4), 16}, {"(" + either("a", 4) + "&" + either("e", 4) + ")|#", 16}, {either("a", 4) + "&" + either("e", 5), -1}, {either("a", 8) + "&" + either("e", 2), 16},
		// Behind any term: what follows does not mend it.
		{either("a", 17) + "&#", -1}, {either("a", 4) + "&" + either("e", 5) + "&#", -1}, {either("a", 9) + "&" + either("a", 9), 9},
		// The contrary's list counts too, and so does one of a truth below.
		{"!" + either("a", 16), 2}, {strings.ReplaceAll(row("a=%d2", 1, 15), "&", "|"), 15}, {strings.ReplaceAll(row("a=%d2", 1, 16), "&", "|"), -1}, {"!" + strings.ReplaceAll(row("a=%d2", 1, 15), "&", "|"), 16}, {"?a&?b&?c&?d&?a&?b&?c&?d&?a&?b&?c&?d&?a&?b&?c&?d", 1}, {"?a&?b&?c&?d&?a&?b&?c&?d&?a&?b&?c&?d&?a&?b&?c&?d&?a", -1}, {"?a&a=1&a=1&a=1&a=1&a=1&a=1&a=1", 1}, {"a=1&a=1&a=1&a=1&a=1&a=1&a=1&a=1", 1}, {"a=1&a=1&a=1&a=1&a=1&a=1&a=1&a=1&a=1", -1}, {"#&(" + either("a", 17) + ")", -1},
		{row("d~(0,0)/%d", 1, 4), 1}, {row("d~(0,0)/%d", 1, 5), -1}, {row("d!=(0,%d)", 1, 4), 1}, {row("d!=(0,%d)", 1, 5), -1}, {row("d!=(0,%d)", 1, 4) + "&d~(0,0)/9", 1}, {row("d!=(0,%d)", 1, 4) + "&" + row("d~(0,0)/%d", 6, 4), 1}, {row("d~(0,0)/%d", 1, 4) + "&d~(0,0)/3", 1}, {row("d~(0,0)/%d", 1, 5) + "&#", -1},
		// A box that is empty is left out, and one without points has no discs, whatever they were.
		{row("d~(0,0)/%d", 1, 4) + "&d~(9,9)/1", 0}, {"!(" + strings.ReplaceAll(row("d!=(%d,0)", 1, 5), "&", "|") + ")", 1}, {"!(" + strings.ReplaceAll(row("d~(%d,0)/0", 1, 4), "&", "|") + ")", 1}, {"!(" + strings.ReplaceAll(row("d~(%d,0)/0", 1, 5), "&", "|") + ")", -1},
	} {
		l, fault := cover.Boxes(schema(), terms(t, c.text))
		if c.want < 0 && (fault != api.ErrLimit || len(l) != 0) {
			t.Fatalf("Boxes(%q): %d boxes, error %d", c.text, len(l), fault)
		}
		if c.want >= 0 && (fault != api.OK || len(l) != c.want) {
			t.Fatalf("Boxes(%q): %d boxes, error %d, wanted %d", c.text, len(l), fault, c.want)
		}
	}
	for _, c := range []struct {
		s    []api.Field
		l    []api.Term
		want api.Errno
	}{
		{schema(), nil, api.ErrForm}, {schema(), terms(t, "z"), api.ErrGone}, {schema(), terms(t, "a"), api.ErrType}, {nil, terms(t, "?a"), api.ErrGone}, {make([]api.Field, 9), nil, api.ErrLimit}, {make([]api.Field, 1), nil, api.ErrName}, {schema(), make([]api.Term, 3), api.ErrArg}, {schema(), terms(t, either("a", 17)+"&z"), api.ErrGone},
	} {
		if l, fault := cover.Boxes(c.s, c.l); fault != c.want || len(l) != 0 || fault != pred.Fits(c.s, c.l) {
			t.Fatalf("Boxes(%v, %v): %+v, error %d, wanted %d", c.s, c.l, l, fault, c.want)
		}
	}
}

// dice are numbers that look like chance, the same ones each time.
type dice uint64

// roll is a number from 0 to n - 1.
func (d *dice) roll(n int) int {
	*d = *d*6364136223846793005 + 1442695040888963407
	return int(uint64(*d)>>33) % n
}

func pick[T any](d *dice, l ...T) T { return l[d.roll(len(l))] }

// value is a value of a kind, often the same one.
func (d *dice) value(k api.Kind) api.Value {
	switch k {
	case api.Whole:
		return whole(pick(d, int64(least), least+1, -1, 0, 1, 2, 3, greatest-1, greatest))
	case api.Words:
		return words(pick(d, "", "\x00", "a", "a\x00", "ab", "abc", "b", "a\xff", "a\xff\x00", "\xff", "\xff\xff", long(200)))
	case api.Truth:
		return truth(d.roll(2) == 0)
	}
	return point(d.roll(7)-3, d.roll(5)-2)
}

func (d *dice) event() api.Event {
	var e api.Event
	for _, field := range schema() {
		if d.roll(4) > 0 {
			e.Attrs = append(e.Attrs, attr(field.Name, d.value(field.Kind)))
		}
	}
	return e
}

func (d *dice) atom() api.Term {
	field := schema()[d.roll(5)]
	cmp := api.Has
	switch field.Kind {
	case api.Truth:
		cmp = pick(d, api.Has, api.Is, api.Equal, api.Other)
	case api.Point:
		cmp = pick(d, api.Has, api.Equal, api.Other, api.Near, api.Near, api.Near)
	default:
		cmp = pick(d, api.Has, api.Equal, api.Other, api.Less, api.Most, api.More, api.Least)
		if field.Kind == api.Words && d.roll(3) == 0 {
			cmp = api.Begins
		}
	}
	return api.Term{Op: api.Atom, Name: field.Name, Cmp: cmp, Value: d.value(field.Kind), Radius: d.roll(5)}
}

func (d *dice) terms(depth int) []api.Term {
	if depth == 0 || d.roll(5) == 0 {
		if d.roll(12) == 0 {
			return []api.Term{{Op: pick(d, api.Yes, api.No)}}
		}
		return []api.Term{d.atom()}
	}
	l := d.terms(depth - 1)
	if join := pick(d, api.Not, api.And, api.And, api.Or); join != api.Not {
		return append(append(l, d.terms(depth-1)...), api.Term{Op: join})
	}
	return append(l, api.Term{Op: api.Not})
}

func lets(t *testing.T, l [][]api.Side, e api.Event) bool {
	t.Helper()
	return slices.ContainsFunc(l, func(b []api.Side) bool {
		is, fault := cover.Lets(b, e)
		if fault != api.OK {
			t.Fatalf("Lets(%+v, %v): error %d", b, e, fault)
		}
		return is
	})
}

func tells(t *testing.T, l []api.Term, e api.Event) bool {
	t.Helper()
	is, fault := pred.Eval(l, e)
	if fault != api.OK {
		t.Fatalf("Eval(%v, %v): error %d", l, e, fault)
	}
	return is
}

// P6.4: either a predicate tells true, or no box of it lets the event through.
func TestBoxesTell(t *testing.T) {
	d := dice(17)
	held := 0
	for range 4000 {
		l := d.terms(3)
		all, fault := cover.Boxes(schema(), l)
		if fault != api.OK {
			continue
		}
		held++
		for _, b := range all {
			if fault := cover.CheckBox(b); fault != api.OK {
				t.Fatalf("a box of %v is %+v: error %d", l, b, fault)
			}
		}
		for range 25 {
			if e := d.event(); tells(t, l, e) != lets(t, all, e) {
				t.Fatalf("%v tells %v of %v, but its boxes are %+v", l, tells(t, l, e), e, all)
			}
		}
	}
	if held < 3000 {
		t.Fatalf("%d predicates alone", held)
	}
}

// someBoxes are boxes of predicates, and others.
func someBoxes(t *testing.T) [][]api.Side {
	all := rights()
	d := dice(19)
	for range 60 {
		if l, fault := cover.Boxes(schema(), d.terms(2)); fault == api.OK {
			all = append(all, l...)
		}
	}
	return all
}

func inside(t *testing.T, a, b []api.Side) bool {
	t.Helper()
	is, fault := cover.Inside(a, b)
	if fault != api.OK {
		t.Fatalf("Inside(%+v, %+v): error %d", a, b, fault)
	}
	return is
}

// P6.5: what is Inside, and Inside of Inside.
func TestInsideLaws(t *testing.T) {
	all := someBoxes(t)
	d := dice(23)
	var events []api.Event
	for range 150 {
		events = append(events, d.event())
	}
	within := 0
	for _, a := range all {
		if !inside(t, a, a) {
			t.Fatalf("%+v is not Inside itself", a)
		}
		for _, b := range all {
			if !inside(t, a, b) {
				continue
			}
			within++
			for _, e := range events {
				if lets(t, boxes(a), e) && !lets(t, boxes(b), e) {
					t.Fatalf("%+v is Inside %+v, but lets %v through", a, b, e)
				}
			}
			for _, c := range all {
				if inside(t, b, c) && !inside(t, a, c) {
					t.Fatalf("%+v is Inside %+v, which is Inside %+v", a, b, c)
				}
			}
		}
	}
	if within < 2*len(all) {
		t.Fatalf("%d pairs alone", within)
	}
}

// P6.5: what is covered tells true of no event of which the other one tells false.
func TestCoversTells(t *testing.T) {
	d := dice(29)
	covered := 0
	for range 6000 {
		p, q := d.terms(2), d.terms(1)
		is, fault := cover.Covers(schema(), p, q)
		if fault != api.OK || !is {
			continue
		}
		covered++
		for range 40 {
			if e := d.event(); tells(t, q, e) && !tells(t, p, e) {
				t.Fatalf("%v covers %v, but not at %v", p, q, e)
			}
		}
	}
	if covered < 200 {
		t.Fatalf("%d pairs alone", covered)
	}
}

// P6.6: a Union lets all through of which one tells true, and without the limit nothing else.
func TestUnionTells(t *testing.T) {
	d := dice(31)
	whole, cut := 0, 0
	for range 600 {
		var ps [][]api.Term
		for range d.roll(25) {
			if l := d.terms(2); noLimit(l) {
				ps = append(ps, l)
			}
		}
		all, fault := cover.Union(schema(), ps...)
		if fault != api.OK || len(all) > api.MaxUnion {
			t.Fatalf("Union(%v): %d boxes, error %d", ps, len(all), fault)
		}
		limited := len(all) == 1 && len(all[0]) == 0
		if limited {
			cut++
		} else {
			whole++
		}
		for i, a := range all {
			for j, b := range all {
				if i != j && inside(t, a, b) {
					t.Fatalf("Union(%v): %+v is Inside %+v", ps, a, b)
				}
			}
		}
		for range 30 {
			e := d.event()
			one := slices.ContainsFunc(ps, func(l []api.Term) bool { return tells(t, l, e) })
			if through := lets(t, all, e); one && !through || !limited && through && !one {
				t.Fatalf("Union(%v): %+v, and %v", ps, all, e)
			}
		}
	}
	if whole < 100 || cut < 10 {
		t.Fatalf("%d whole ones, %d cut ones", whole, cut)
	}
}

func noLimit(l []api.Term) bool {
	_, fault := cover.Boxes(schema(), l)
	return fault == api.OK
}

// cloned is boxes that share nothing.
func cloned(l [][]api.Side) [][]api.Side {
	var out [][]api.Side
	for _, b := range l {
		copied := slices.Clone(b)
		for i := range copied {
			copied[i].Ins, copied[i].Outs = slices.Clone(copied[i].Ins), slices.Clone(copied[i].Outs)
		}
		out = append(out, copied)
	}
	return out
}

// spoil writes over all that a box has, and over its spare room.
func spoil(b []api.Side) {
	for i := range b {
		for _, l := range [][]api.Disc{b[i].Ins, b[i].Outs} {
			for j := range l[:cap(l)] {
				l[:cap(l)][j] = disc(77, 77, 77)
			}
		}
	}
	for i := range b[:cap(b)] {
		b[:cap(b)][i] = api.Side{Name: "spoilt"}
	}
}

// P3: no two boxes of an answer share memory, nor do two answers.
func TestAnsweredIsNew(t *testing.T) {
	d := dice(37)
	texts := [][]api.Term{terms(t, "(d~(0,0)/5 & d!=(0,0)) & (a=1 | a=2 | a=3 & d~(1,1)/5)"), terms(t, "!(d~(0,0)/5 | a=5 | e=6)"), terms(t, "(?d | d!=(1,1)) & (a=1 | !(d=(2,2)))")}
	for range 300 {
		texts = append(texts, d.terms(3))
	}
	for _, l := range texts {
		for _, answer := range []func() [][]api.Side{
			func() [][]api.Side { l, _ := cover.Boxes(schema(), l); return l },
			func() [][]api.Side { l, _ := cover.Union(schema(), l, terms(t, "d~(9,9)/1 & e=1"), l); return l },
		} {
			all, again := answer(), answer()
			want := cloned(all)
			for i := range all {
				spoil(all[i])
				if !sameBoxes(all[i+1:], want[i+1:]) {
					t.Fatalf("boxes of %v share memory", l)
				}
			}
			if !sameBoxes(again, want) {
				t.Fatalf("two answers of %v share memory", l)
			}
		}
	}
}

// P3: what is handed in stays as it is, spare room too.
func TestHandedInStays(t *testing.T) {
	all := someBoxes(t)
	kept := cloned(all)
	e := of(attr("a", whole(1)), attr("d", point(1, 1)))
	for i, b := range all {
		roomy := append(slices.Clone(b), low(7, 7))
		in := roomy[:len(b)]
		cover.CheckBox(in)
		cover.Lets(in, e)
		inside(t, in, all[(i+1)%len(all)])
		inside(t, all[(i+1)%len(all)], in)
		if !sameSide(roomy[len(b)], low(7, 7)) {
			t.Fatalf("the room behind %+v was written on", b)
		}
	}
	if !sameBoxes(all, kept) || e.Attrs[0] != attr("a", whole(1)) || e.Attrs[1] != attr("d", point(1, 1)) {
		t.Fatal("what was handed in was changed")
	}
	l := append(terms(t, "!(d~(0,0)/5 & a=5) & !?c"), api.Term{Name: "spare"})
	keptTerms := slices.Clone(l)
	fields := append(schema(), api.Field{Name: "spare"})
	ps := [][]api.Term{l[:len(l)-1], terms(t, "a=1"), l[:len(l)-1], terms(t, "*"), nil}
	cover.Boxes(fields[:5], l[:len(l)-1])
	cover.Covers(fields[:5], l[:len(l)-1], l[:len(l)-1])
	cover.Union(fields[:5], ps[:4]...)
	if !slices.Equal(l, keptTerms) || !slices.Equal(fields[:5], schema()) || fields[5].Name != "spare" || len(ps[0]) != len(l)-1 || len(ps[1]) != 1 || len(ps[3]) != 1 || ps[4] != nil {
		t.Fatal("what was handed in was changed")
	}
}
