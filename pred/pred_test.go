package pred_test

import (
	"math"
	"slices"
	"strings"
	"testing"

	"grapevine/api"
	"grapevine/event"
	"grapevine/pred"
)

const longName = "abcdefghijklmnop" // MaxName bytes

func whole(n int64) api.Value  { return api.Value{Kind: api.Whole, Whole: n} }
func words(s string) api.Value { return api.Value{Kind: api.Words, Words: s} }
func truth(is bool) api.Value  { return api.Value{Kind: api.Truth, Truth: is} }
func point(x, y int) api.Value {
	return api.Value{Kind: api.Point, Point: complex(float64(x), float64(y))}
}

func op(o api.Op) api.Term { return api.Term{Op: o} }

func atom(name string, cmp api.Cmp, v api.Value) api.Term {
	return api.Term{Op: api.Atom, Name: name, Cmp: cmp, Value: v}
}

func has(name string) api.Term { return atom(name, api.Has, api.Value{}) }
func is(name string) api.Term  { return atom(name, api.Is, api.Value{}) }

func near(name string, v api.Value, radius int) api.Term {
	return api.Term{Op: api.Atom, Name: name, Cmp: api.Near, Value: v, Radius: radius}
}

func list(l ...api.Term) []api.Term { return l }

func long(n int) string { return strings.Repeat("x", n) }

// times is a term, n times.
func times(n int, term api.Term) []api.Term { return slices.Repeat(list(term), n) }

// row is n atoms with a sign between each two, the first two joined first.
func row(n int, join api.Op) []api.Term {
	l := list(is("a"))
	for range n - 1 {
		l = append(l, is("a"), op(join))
	}
	return l
}

// steep is n truths that stand together, and are joined from the last one on.
func steep(n int) []api.Term { return append(times(n, op(api.Yes)), times(n-1, op(api.And))...) }

// wrong is a predicate with what is wrong with it.
type wrong struct {
	l    []api.Term
	want api.Errno
}

func wrongs() []wrong {
	half := api.Value{Kind: api.Point, Point: 0.5}
	return []wrong{
		{nil, api.ErrForm}, {list(), api.ErrForm}, {times(48, op(api.Not)), api.ErrForm}, {times(49, op(api.Not)), api.ErrLimit}, {make([]api.Term, 49), api.ErrLimit},
		{append(list(op(api.Yes)), times(48, op(api.Not))...), api.ErrLimit},
		{make([]api.Term, 48), api.ErrArg}, {list(op(-1)), api.ErrArg}, {list(op(7)), api.ErrArg}, {list(op(math.MaxInt)), api.ErrArg}, {list(op(api.Yes), op(api.NoOp)), api.ErrArg},
		{list(is("")), api.ErrName}, {list(is("A")), api.ErrName}, {list(has(longName + "q")), api.ErrName}, {list(near("1", point(0, 0), 0)), api.ErrName},
		{list(atom("a", api.NoCmp, whole(1))), api.ErrArg}, {list(atom("a", api.Near+1, whole(1))), api.ErrArg}, {list(atom("a", -1, whole(1))), api.ErrArg}, {list(atom("a", math.MaxInt, whole(1))), api.ErrArg},
		{list(atom("a", api.Equal, api.Value{})), api.ErrType}, {list(atom("a", api.Other, api.Value{Kind: 5})), api.ErrType}, {list(atom("a", api.Less, words(long(201)))), api.ErrLimit}, {list(atom("a", api.Equal, half)), api.ErrArg},
		{list(near("a", half, 1)), api.ErrArg}, {list(near("a", api.Value{Kind: api.Point, Point: complex(0, math.NaN())}, 1)), api.ErrArg},
		{list(atom("a", api.Less, truth(true))), api.ErrType}, {list(atom("a", api.Most, point(1, 1))), api.ErrType}, {list(atom("a", api.More, truth(true))), api.ErrType}, {list(atom("a", api.Least, point(1, 1))), api.ErrType},
		{list(atom("a", api.Begins, whole(1))), api.ErrType}, {list(atom("a", api.Begins, truth(true))), api.ErrType}, {list(atom("a", api.Begins, point(1, 1))), api.ErrType},
		{list(near("a", whole(1), 1)), api.ErrType}, {list(near("a", words("a"), 1)), api.ErrType}, {list(near("a", truth(true), 1)), api.ErrType},
		{list(near("a", point(0, 0), -1)), api.ErrArg}, {list(near("a", point(0, 0), 1<<20+1)), api.ErrArg}, {list(near("a", point(0, 0), math.MinInt)), api.ErrArg},
		{list(op(api.Not)), api.ErrForm}, {list(op(api.And)), api.ErrForm}, {list(op(api.Yes), op(api.And)), api.ErrForm}, {list(op(api.Or)), api.ErrForm}, {list(op(api.No), op(api.Or)), api.ErrForm},
		{list(op(api.Yes), op(api.Yes)), api.ErrForm}, {list(op(api.Yes), op(api.No), op(api.Or), is("a")), api.ErrForm},
		{steep(17), api.ErrLimit}, {times(17, is("a")), api.ErrLimit}, {times(16, is("a")), api.ErrForm},
		// Where several apply, the one that is named first.
		{list(atom("", 0, api.Value{})), api.ErrName}, {list(atom("a", 0, api.Value{})), api.ErrArg}, {list(near("a", words(long(201)), -1)), api.ErrLimit}, {list(near("a", whole(1), -1)), api.ErrType},
		{append(times(16, op(api.Yes)), is("")), api.ErrName}, {append(times(17, op(api.Yes)), is("")), api.ErrLimit}, {list(op(api.Not), is("")), api.ErrForm}, {list(is(""), op(api.Not)), api.ErrName},
		{list(op(api.Yes), op(api.Yes), is("")), api.ErrName}, {list(op(api.Yes), op(api.Or), op(0)), api.ErrForm},
	}
}

// rights are right predicates with nothing in fields that count for nothing, no two of them the same.
func rights() [][]api.Term {
	return [][]api.Term{
		list(op(api.Yes)), list(op(api.No)), list(has("a")), list(is("a")), list(is("b")), list(has(longName)), list(is("yes")), list(has("no")), list(is("a-9")),
		list(atom("a", api.Equal, whole(0))), list(atom("a", api.Other, whole(0))), list(atom("a", api.Equal, whole(-1))), list(atom("a", api.Equal, words("0"))), list(atom("a", api.Equal, words(""))),
		list(atom("a", api.Equal, truth(true))), list(atom("a", api.Equal, truth(false))), list(atom("a", api.Other, truth(false))), list(atom("a", api.Equal, point(1, -2))), list(atom("a", api.Other, point(-1<<20, 1<<20))),
		list(atom("a", api.Less, whole(math.MinInt64))), list(atom("a", api.Most, whole(math.MaxInt64))), list(atom("a", api.More, words(long(200)))), list(atom("a", api.Least, words("\x00\xff\"\\ ~\x1f\x7f"))),
		list(atom("a", api.Begins, words("ab"))), list(atom("a", api.Begins, words(""))), list(near("a", point(1, -2), 3)), list(near("a", point(0, 0), 0)), list(near("a", point(1, -2), 1<<20)),
		list(is("a"), op(api.Not)), list(is("a"), op(api.Not), op(api.Not)), list(is("a"), is("b"), op(api.And)), list(is("a"), is("b"), op(api.Or)), list(is("a"), is("b"), op(api.Or), op(api.Not)),
		list(is("a"), op(api.Not), is("b"), op(api.And)), list(is("a"), is("b"), op(api.Not), op(api.And)),
		row(24, api.And), row(24, api.Or), steep(16), append(list(op(api.No)), times(47, op(api.Not))...),
	}
}

// P5.1
func TestCheck(t *testing.T) {
	for _, l := range rights() {
		if fault := pred.Check(l); fault != api.OK {
			t.Fatalf("Check(%v): error %d", l, fault)
		}
	}
	for _, w := range wrongs() {
		if fault := pred.Check(w.l); fault != w.want {
			t.Fatalf("Check(%v): error %d, wanted %d", w.l, fault, w.want)
		}
	}
}

// P5.1: what counts for nothing.
func TestCheckLeavesOut(t *testing.T) {
	junk := api.Value{Kind: 77, Words: long(300), Point: complex(math.NaN(), math.Inf(1))}
	for _, term := range []api.Term{
		{Op: api.Yes, Name: "A!", Cmp: -5, Value: junk, Radius: -9}, {Op: api.No, Name: long(99), Cmp: 55, Value: junk},
		{Op: api.Atom, Name: "a", Cmp: api.Has, Value: junk, Radius: -9}, {Op: api.Atom, Name: "a", Cmp: api.Is, Value: junk, Radius: math.MaxInt},
		{Op: api.Atom, Name: "a", Cmp: api.Equal, Value: whole(1), Radius: -9}, {Op: api.Atom, Name: "a", Cmp: api.Begins, Value: words("x"), Radius: 1 << 40},
		{Op: api.Atom, Name: "a", Cmp: api.Equal, Value: api.Value{Kind: api.Whole, Words: long(300), Point: 0.5}},
	} {
		if fault := pred.Check(list(term)); fault != api.OK {
			t.Fatalf("Check of %v: error %d", term, fault)
		}
	}
	if fault := pred.Check(list(is("a"), api.Term{Op: api.Not, Name: "!", Cmp: -1, Value: junk, Radius: -1})); fault != api.OK {
		t.Fatalf("a Not with other fields: error %d", fault)
	}
}

func schema() []api.Field {
	return []api.Field{{Name: "a", Kind: api.Whole}, {Name: "b", Kind: api.Words}, {Name: "c", Kind: api.Truth}, {Name: "d", Kind: api.Point}}
}

// P5.1
func TestFits(t *testing.T) {
	for _, c := range []struct {
		l    []api.Term
		want api.Errno
	}{
		{list(op(api.Yes)), api.OK}, {list(has("a"), has("b"), op(api.And), has("c"), op(api.Or), has("d"), op(api.Not), op(api.And)), api.OK},
		{list(is("c")), api.OK}, {list(is("a")), api.ErrType}, {list(is("b")), api.ErrType}, {list(is("d")), api.ErrType},
		{list(atom("a", api.Equal, whole(1))), api.OK}, {list(atom("b", api.Less, words("x"))), api.OK}, {list(atom("c", api.Other, truth(true))), api.OK}, {list(atom("d", api.Equal, point(1, 1))), api.OK}, {list(near("d", point(1, 1), 2)), api.OK},
		{list(atom("b", api.Begins, words("x"))), api.OK}, {list(atom("a", api.Begins, words("x"))), api.ErrType}, {list(atom("a", api.Equal, words("x"))), api.ErrType}, {list(atom("b", api.Less, whole(1))), api.ErrType}, {list(atom("c", api.Equal, point(0, 0))), api.ErrType}, {list(near("a", point(0, 0), 1)), api.ErrType},
		{list(has("e")), api.ErrGone}, {list(has("aa")), api.ErrGone}, {list(is("e")), api.ErrGone}, {list(atom("a-", api.Equal, whole(1))), api.ErrGone},
		// Of a Has no kind counts, of an Is the Value's does not.
		{list(atom("a", api.Has, truth(true))), api.OK}, {list(atom("c", api.Is, whole(1))), api.OK}, {list(atom("a", api.Is, whole(1))), api.ErrType},
		// Atom by atom, behind Check; names of other terms count for nothing.
		{list(is("a"), has("e"), op(api.And)), api.ErrType}, {list(has("e"), is("a"), op(api.And)), api.ErrGone}, {list(has("e"), is("a")), api.ErrForm}, {list(has("e"), is("")), api.ErrName},
		{list(api.Term{Op: api.Yes, Name: "e", Cmp: api.Has}), api.OK}, {list(has("a"), api.Term{Op: api.Not, Name: "e", Cmp: api.Is}), api.OK},
	} {
		if fault := pred.Fits(schema(), c.l); fault != c.want {
			t.Fatalf("Fits of %v: error %d, wanted %d", c.l, fault, c.want)
		}
	}
	for _, w := range wrongs() {
		if fault := pred.Fits(schema(), w.l); fault != w.want {
			t.Fatalf("Fits of %v: error %d, wanted %d", w.l, fault, w.want)
		}
		if fault := pred.Fits(make([]api.Field, 9), w.l); fault != api.ErrLimit {
			t.Fatalf("nine fields, and %v: error %d", w.l, fault)
		}
		if fault := pred.Fits([]api.Field{{Name: "b", Kind: 1}, {Name: "a", Kind: 1}}, w.l); fault != api.ErrForm {
			t.Fatalf("names that fall, and %v: error %d", w.l, fault)
		}
	}
	if fault := pred.Fits(nil, list(op(api.No))); fault != api.OK {
		t.Fatalf("no field is asked for: error %d", fault)
	}
	if fault := pred.Fits(nil, list(has("a"))); fault != api.ErrGone {
		t.Fatalf("no fields: error %d", fault)
	}
}

func of(attrs ...api.Attr) api.Event { return api.Event{Attrs: attrs} }

func attr(name string, v api.Value) api.Attr { return api.Attr{Name: name, Value: v} }

func mustEval(t *testing.T, l []api.Term, e api.Event) bool {
	t.Helper()
	told, fault := pred.Eval(l, e)
	if fault != api.OK {
		t.Fatalf("Eval(%v, %v): error %d", l, e, fault)
	}
	return told
}

// P5.1: what each atom tells of each value, its Value in the middle of three.
func TestEvalOrder(t *testing.T) {
	for _, three := range [][3]api.Value{
		{whole(-1), whole(0), whole(1)}, {whole(math.MinInt64), whole(5), whole(math.MaxInt64)}, {words("ab"), words("ab\x00"), words("b")}, {words(""), words("a"), words("\xff")},
	} {
		for cmp, want := range map[api.Cmp][3]bool{
			api.Less: {true, false, false}, api.Most: {true, true, false}, api.More: {false, false, true}, api.Least: {false, true, true}, api.Equal: {false, true, false}, api.Other: {true, false, true},
		} {
			for i, v := range three {
				if told := mustEval(t, list(atom("a", cmp, three[1])), of(attr("a", v))); told != want[i] {
					t.Fatalf("atom %d with %v of %v: %v", cmp, three[1], v, told)
				}
			}
		}
	}
}

// P5.1
func TestEvalAtoms(t *testing.T) {
	e := of(attr("a", whole(4)), attr("b", words("ab\x00")), attr("c", truth(true)), attr("cc", truth(false)), attr("d", point(3, 4)))
	for _, c := range []struct {
		term api.Term
		want bool
	}{
		{op(api.Yes), true}, {op(api.No), false}, {has("a"), true}, {has("d"), true}, {has("cc"), true}, {has("e"), false}, {has("ab"), false},
		{is("c"), true}, {is("cc"), false}, {is("a"), false}, {is("b"), false}, {is("d"), false}, {is("e"), false}, {atom("c", api.Is, whole(1)), true}, {atom("cc", api.Is, truth(true)), false},
		{atom("c", api.Equal, truth(true)), true}, {atom("c", api.Equal, truth(false)), false}, {atom("cc", api.Equal, truth(false)), true}, {atom("c", api.Other, truth(true)), false}, {atom("c", api.Other, truth(false)), true},
		{atom("d", api.Equal, point(3, 4)), true}, {atom("d", api.Equal, point(4, 3)), false}, {atom("d", api.Other, point(3, 4)), false}, {atom("d", api.Other, point(3, 5)), true},
		// Of another kind, and of none.
		{atom("a", api.Equal, words("4")), false}, {atom("a", api.Other, words("4")), false}, {atom("b", api.Least, whole(4)), false}, {atom("c", api.Other, whole(1)), false}, {atom("a", api.Begins, words("")), false}, {near("a", point(4, 0), 9), false},
		{atom("e", api.Other, whole(1)), false}, {atom("e", api.Least, whole(math.MinInt64)), false}, {atom("e", api.Begins, words("")), false}, {near("e", point(0, 0), 1<<20), false},
		{atom("b", api.Begins, words("")), true}, {atom("b", api.Begins, words("ab")), true}, {atom("b", api.Begins, words("ab\x00")), true}, {atom("b", api.Begins, words("ab\x00\x00")), false}, {atom("b", api.Begins, words("b")), false}, {atom("b", api.Begins, words("A")), false},
		{near("d", point(0, 0), 5), true}, {near("d", point(0, 0), 4), false}, {near("d", point(3, 4), 0), true}, {near("d", point(3, 5), 0), false}, {near("d", point(-1, 1), 5), true}, {near("d", point(-1, 0), 5), false},
		{near("d", point(1<<20, 4), 1<<20), true}, {near("d", point(-1<<20, 4), 1<<20), false},
	} {
		if told := mustEval(t, list(c.term), e); told != c.want {
			t.Fatalf("%v: %v", c.term, told)
		}
	}
	far := of(attr("d", point(1<<20, 1<<20)))
	if mustEval(t, list(near("d", point(-1<<20, -1<<20), 1<<20)), far) {
		t.Fatal("the farthest points are near")
	}
	zero := api.Value{Kind: api.Point, Point: complex(math.Copysign(0, -1), math.Copysign(0, -1))}
	if !mustEval(t, list(atom("d", api.Equal, zero)), of(attr("d", point(0, 0)))) || !mustEval(t, list(near("d", point(0, 0), 0)), of(attr("d", zero))) {
		t.Fatal("-0 is 0")
	}
}

// P5.1: terms on the stack.
func TestEvalStack(t *testing.T) {
	yes, no := op(api.Yes), op(api.No)
	for _, c := range []struct {
		l    []api.Term
		want bool
	}{
		{list(yes, op(api.Not)), false}, {list(no, op(api.Not)), true}, {list(yes, yes, op(api.And)), true}, {list(yes, no, op(api.And)), false}, {list(no, yes, op(api.And)), false}, {list(no, no, op(api.And)), false},
		{list(yes, yes, op(api.Or)), true}, {list(yes, no, op(api.Or)), true}, {list(no, yes, op(api.Or)), true}, {list(no, no, op(api.Or)), false},
		{list(yes, no, op(api.Not), op(api.And)), true}, {list(yes, no, op(api.And), op(api.Not)), true}, {list(no, yes, op(api.Not), op(api.Or)), false}, {list(yes, no, no, op(api.And), op(api.Or)), true}, {list(yes, no, op(api.Or), no, op(api.And)), false},
		{steep(16), true}, {append(list(no), times(47, op(api.Not))...), true},
	} {
		if told := mustEval(t, c.l, of()); told != c.want {
			t.Fatalf("%v: %v", c.l, told)
		}
	}
}

// P5.1: Check's error counts ahead of the event's.
func TestEvalFaults(t *testing.T) {
	bad := of(attr("", whole(1)))
	for _, w := range wrongs() {
		for _, e := range []api.Event{of(), bad} {
			if told, fault := pred.Eval(w.l, e); told || fault != w.want {
				t.Fatalf("Eval(%v, %v): %v, error %d, wanted %d", w.l, e, told, fault, w.want)
			}
		}
	}
	for _, e := range []api.Event{bad, of(attr("b", whole(1)), attr("a", whole(1))), {Content: make([]byte, 201)}, of(attr("a", api.Value{}))} {
		if told, fault := pred.Eval(list(op(api.Yes)), e); told || fault != event.Check(e) {
			t.Fatalf("Eval of %v: %v, error %d", e, told, fault)
		}
	}
}

// P5.3
func TestPrint(t *testing.T) {
	a, b, c := is("a"), is("b"), is("c")
	and, or, not := op(api.And), op(api.Or), op(api.Not)
	for _, x := range []struct {
		l    []api.Term
		want string
	}{
		{list(op(api.Yes)), "*"}, {list(op(api.No)), "#"}, {list(a), "a"}, {list(has("a")), "?a"}, {list(is("yes"), has("no"), and), "yes & ?no"},
		{list(atom("a", api.Less, whole(5)), has("b"), not, and), "a<5 & !?b"}, {list(atom("a", api.Most, whole(-5))), "a<=-5"}, {list(atom("a", api.More, words("x"))), `a>"x"`}, {list(atom("a", api.Least, words(" "))), `a>=" "`},
		{list(atom("a", api.Equal, truth(true))), "a=yes"}, {list(atom("a", api.Other, truth(false))), "a!=no"}, {list(atom("a", api.Equal, point(1, -2))), "a=(1,-2)"}, {list(near("x", point(1, -2), 3)), "x~(1,-2)/3"}, {list(atom("a", api.Begins, words("ab"))), `a^"ab"`},
		{list(atom("a", api.Equal, whole(math.MinInt64))), "a=-9223372036854775808"}, {list(near("x", point(-1<<20, 1<<20), 1<<20)), "x~(-1048576,1048576)/1048576"},
		{list(atom("a", api.Equal, words("\"\\ !~\x1f\x7f\x00\xff\x0a'"))), `a="\"\\ !~\x1f\x7f\x00\xff\x0a'"`}, {list(atom("a", api.Equal, words("ä"))), `a="\xc3\xa4"`},
		{list(a, not), "!a"}, {list(a, not, not), "!!a"}, {list(atom("a", api.Equal, whole(5)), not), "!a=5"}, {list(a, b, and, not), "!(a & b)"}, {list(a, b, or, not), "!(a | b)"}, {list(a, not, b, not, and, not), "!(!a & !b)"}, {list(a, b, and, not, not), "!!(a & b)"},
		{list(a, b, or, c, or), "a | b | c"}, {list(a, b, c, or, or), "a | (b | c)"}, {list(a, b, and, c, and), "a & b & c"}, {list(a, b, c, and, and), "a & (b & c)"},
		{list(a, b, c, and, or), "a | b & c"}, {list(a, b, and, c, or), "a & b | c"}, {list(a, b, or, c, and), "(a | b) & c"}, {list(a, b, c, or, and), "a & (b | c)"}, {list(a, b, or, not, c, and), "!(a | b) & c"},
		{list(a, b, or, b, c, or, and), "(a | b) & (b | c)"}, {list(a, b, and, b, c, and, or), "a & b | b & c"}, {list(a, b, or, b, c, or, or), "a | b | (b | c)"},
	} {
		if text, fault := pred.Print(x.l); fault != api.OK || text != x.want {
			t.Fatalf("Print(%v): %q, error %d, wanted %q", x.l, text, fault, x.want)
		}
	}
	zero := api.Value{Kind: api.Point, Point: complex(math.Copysign(0, -1), math.Copysign(0, -1))}
	if text, fault := pred.Print(list(near("a", zero, 0))); fault != api.OK || text != "a~(0,0)/0" {
		t.Fatalf("Print of -0: %q, error %d", text, fault)
	}
}

// P5.3: the errors, and texts about as long as may be.
func TestPrintFaults(t *testing.T) {
	for _, w := range wrongs() {
		if text, fault := pred.Print(w.l); text != "" || fault != w.want {
			t.Fatalf("Print(%v): %q, error %d, wanted %d", w.l, text, fault, w.want)
		}
	}
	for _, c := range []struct {
		l    []api.Term
		want int // bytes
	}{
		{list(atom("a", api.Equal, words(long(200))), atom("b", api.Equal, words(long(89))), op(api.And)), 300}, {list(atom("a", api.Equal, words(long(200))), atom("b", api.Equal, words(long(90))), op(api.And)), 301},
		{list(atom("abc", api.Less, words(strings.Repeat("\x00", 73)+"xx"))), 300}, {list(atom("abc", api.Less, words(strings.Repeat("\x00", 73)+"xxx"))), 301}, {list(atom("a", api.Begins, words(strings.Repeat("\"", 200)))), 404},
		{list(atom("ab", api.Begins, words(strings.Repeat("\\", 147)+"x"))), 300}, {list(atom("ab", api.Begins, words(strings.Repeat("\\", 148)))), 301}, {row(48/2, api.And), 24 + 23*3},
	} {
		text, fault := pred.Print(c.l)
		if c.want <= 300 && (fault != api.OK || len(text) != c.want) || c.want > 300 && (fault != api.ErrLimit || text != "") {
			t.Fatalf("Print(%v): %d bytes, error %d, wanted %d bytes", c.l, len(text), fault, c.want)
		}
	}
}
