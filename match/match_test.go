package match_test

import (
	"math"
	"reflect"
	"slices"
	"strings"
	"testing"

	"grapevine/api"
	"grapevine/cover"
	"grapevine/event"
	"grapevine/match"
	"grapevine/pred"
)

func whole(n int64) api.Value  { return api.Value{Kind: api.Whole, Whole: n} }
func words(s string) api.Value { return api.Value{Kind: api.Words, Words: s} }
func truth(is bool) api.Value  { return api.Value{Kind: api.Truth, Truth: is} }
func point(x, y int) api.Value {
	return api.Value{Kind: api.Point, Point: complex(float64(x), float64(y))}
}

func attr(name string, v api.Value) api.Attr { return api.Attr{Name: name, Value: v} }

func of(attrs ...api.Attr) api.Event { return api.Event{Attrs: attrs} }

func schema() []api.Field {
	return []api.Field{{Name: "a", Kind: api.Whole}, {Name: "b", Kind: api.Truth}, {Name: "c", Kind: api.Words}, {Name: "d", Kind: api.Point}, {Name: "e", Kind: api.Whole}}
}

func terms(t *testing.T, text string) []api.Term {
	t.Helper()
	l, at, fault := pred.Parse(text)
	if fault != api.OK {
		t.Fatalf("Parse(%q): error %d at %d", text, fault, at)
	}
	return l
}

func mustNew(t *testing.T) *match.Index {
	t.Helper()
	x, fault := match.New(schema())
	if fault != api.OK || x == nil {
		t.Fatalf("New: error %d", fault)
	}
	return x
}

func mustAdd(t *testing.T, x *match.Index, id int, l []api.Term) {
	t.Helper()
	if fault := x.Add(id, l); fault != api.OK {
		t.Fatalf("Add(%d, %v): error %d", id, l, fault)
	}
}

func mustRemove(t *testing.T, x *match.Index, id int) {
	t.Helper()
	if fault := x.Remove(id); fault != api.OK {
		t.Fatalf("Remove(%d): error %d", id, fault)
	}
}

// indexOf is an index of texts: the first one has the number 1; empty ones are left out.
func indexOf(t *testing.T, texts ...string) *match.Index {
	t.Helper()
	x := mustNew(t)
	for i, text := range texts {
		if text != "" {
			mustAdd(t, x, i+1, terms(t, text))
		}
	}
	return x
}

// wantMatch holds Match and Any of an event against the numbers that are wanted.
func wantMatch(t *testing.T, x *match.Index, e api.Event, want ...int) {
	t.Helper()
	if l, fault := x.Match(e); fault != api.OK || !slices.Equal(l, want) {
		t.Fatalf("Match(%v): %v, error %d, wanted %v", e, l, fault, want)
	}
	if is, fault := x.Any(e); fault != api.OK || is != (len(want) > 0) {
		t.Fatalf("Any(%v): %v, error %d, wanted %v", e, is, fault, want)
	}
}

// P7.1
func TestNew(t *testing.T) {
	full := make([]api.Field, api.MaxAttrs)
	for i := range full {
		full[i] = api.Field{Name: string(rune('a' + i)), Kind: api.Whole}
	}
	for _, s := range [][]api.Field{nil, {}, schema(), full} {
		x, fault := match.New(s)
		if fault != api.OK || x == nil || len(x.Ids()) != 0 || len(x.Union()) != 0 {
			t.Fatalf("New(%v): error %d", s, fault)
		}
		wantMatch(t, x, of())
	}
	for _, c := range []struct {
		s    []api.Field
		want api.Errno
	}{
		{make([]api.Field, api.MaxAttrs+1), api.ErrLimit}, {make([]api.Field, 1), api.ErrName}, {[]api.Field{{Name: "A", Kind: api.Whole}}, api.ErrName}, {[]api.Field{{Name: "b", Kind: api.Whole}, {Name: "a", Kind: api.Whole}}, api.ErrForm}, {[]api.Field{{Name: "a", Kind: api.Whole}, {Name: "a", Kind: api.Whole}}, api.ErrForm}, {[]api.Field{{Name: "a"}}, api.ErrType}, {[]api.Field{{Name: "a", Kind: api.Point + 1}}, api.ErrType},
	} {
		if x, fault := match.New(c.s); x != nil || fault != c.want || fault != event.CheckSchema(c.s) {
			t.Fatalf("New(%v): %v, error %d, wanted %d", c.s, x, fault, c.want)
		}
	}
}

// tooMany is a predicate with a box more than may be.
func tooMany() string { return strings.Repeat("a=1 | ", api.MaxBoxes) + "a=1" }

// P7.1: the numbers, and of several errors the first one; what is refused changes nothing.
func TestAdd(t *testing.T) {
	x := indexOf(t, "a<5")
	e := of(attr("a", whole(3)))
	for _, c := range []struct {
		id   int
		text string
		want api.Errno
	}{
		{0, "*", api.ErrArg}, {-1, "*", api.ErrArg}, {api.MaxSubs + 1, "*", api.ErrArg}, {math.MinInt, "*", api.ErrArg}, {math.MaxInt, "*", api.ErrArg}, {1 + 1<<32, "*", api.ErrArg}, {0, "z", api.ErrArg}, {1, "*", api.ErrKnown}, {1, "z", api.ErrKnown}, {1, "a<5", api.ErrKnown},
		{2, "z", api.ErrGone}, {2, "a", api.ErrType}, {2, "* | z", api.ErrGone}, {2, tooMany(), api.ErrLimit}, {2, "* | " + tooMany(), api.ErrLimit},
	} {
		if fault := x.Add(c.id, terms(t, c.text)); fault != c.want {
			t.Fatalf("Add(%d, %q): error %d, wanted %d", c.id, c.text, fault, c.want)
		}
		wantMatch(t, x, e, 1)
		wantMatch(t, x, of())
		if l, there := x.Terms(2); there || len(l) != 0 || !slices.Equal(x.Ids(), []int{1}) {
			t.Fatalf("Add(%d, %q), which failed, added: %v", c.id, c.text, x.Ids())
		}
	}
	for _, c := range []struct {
		l    []api.Term
		want api.Errno
	}{
		{nil, api.ErrForm}, {make([]api.Term, 1), api.ErrArg}, {make([]api.Term, api.MaxTerms+1), api.ErrLimit}, {[]api.Term{{Op: api.Yes}, {Op: api.Yes}}, api.ErrForm}, {[]api.Term{{Op: api.Atom, Name: "A", Cmp: api.Has}}, api.ErrName}, {[]api.Term{{Op: api.Atom, Name: "d", Cmp: api.Near, Value: point(0, 0), Radius: -1}}, api.ErrArg},
	} {
		if _, fault := cover.Boxes(schema(), c.l); fault != c.want || x.Add(2, c.l) != c.want {
			t.Fatalf("Add(2, %v): error %d, wanted %d", c.l, x.Add(2, c.l), c.want)
		}
	}
	// A number that was refused may be added yet, and the last one may be.
	mustAdd(t, x, 2, terms(t, "*"))
	mustAdd(t, x, api.MaxSubs, terms(t, "a=3"))
	wantMatch(t, x, e, 1, 2, api.MaxSubs)
}

// P7.1
func TestRemove(t *testing.T) {
	x := indexOf(t, "a<5", "a<9", "*")
	e := of(attr("a", whole(3)))
	for _, id := range []int{0, -1, 4, 32, 33, 64, math.MinInt, math.MaxInt, 1 + 1<<32} {
		if fault := x.Remove(id); fault != api.ErrGone {
			t.Fatalf("Remove(%d): error %d", id, fault)
		}
		wantMatch(t, x, e, 1, 2, 3)
	}
	mustRemove(t, x, 2)
	wantMatch(t, x, e, 1, 3)
	if fault := x.Remove(2); fault != api.ErrGone || !slices.Equal(x.Ids(), []int{1, 3}) {
		t.Fatalf("Remove(2) again: error %d, left %v", fault, x.Ids())
	}
	if l, there := x.Terms(2); there || len(l) != 0 {
		t.Fatalf("Terms of one that was taken away: %v", l)
	}
	mustAdd(t, x, 2, terms(t, "a=4"))
	wantMatch(t, x, e, 1, 3)
	wantMatch(t, x, of(attr("a", whole(4))), 1, 2, 3)
	for _, id := range []int{3, 1, 2} {
		mustRemove(t, x, id)
	}
	wantMatch(t, x, e)
	if len(x.Ids()) != 0 || len(x.Union()) != 0 {
		t.Fatalf("all are taken away, left are %v", x.Ids())
	}
}

// P7.2, and the chapter's example.
func TestMatch(t *testing.T) {
	x := indexOf(t, "a<5", "a<9", "?b")
	wantMatch(t, x, of(attr("a", whole(7))), 2)
	wantMatch(t, x, of(attr("a", whole(4))), 1, 2)
	wantMatch(t, x, of(attr("a", whole(9))))
	wantMatch(t, x, of(attr("a", whole(-9)), attr("b", truth(false))), 1, 2, 3)
	wantMatch(t, x, of(attr("b", truth(true))), 3)
	wantMatch(t, x, of())
	wantMatch(t, x, api.Event{Content: []byte("b")})
	wantMatch(t, x, of(attr("a", api.Value{Kind: api.Whole, Whole: 7, Words: "x", Truth: true, Point: complex(math.NaN(), 0.5)})), 2)
	// Several boxes of one are told once.
	wantMatch(t, indexOf(t, "a<5 | a<9 | ?a | *", "a=1 | a=1"), of(attr("a", whole(1))), 1, 2)
	// Of a number each.
	y := mustNew(t)
	var all []int
	for id := api.MaxSubs; id >= 1; id-- {
		mustAdd(t, y, id, []api.Term{{Op: api.Atom, Name: "a", Cmp: api.Least, Value: whole(int64(id))}})
		all = append(all, api.MaxSubs+1-id)
	}
	for n := range api.MaxSubs + 2 {
		wantMatch(t, y, of(attr("a", whole(int64(n)))), all[:min(n, api.MaxSubs)]...)
	}
	if !slices.Equal(y.Ids(), all) {
		t.Fatalf("Ids: %v", y.Ids())
	}
}

// P7.2: boxes that differ in one of what they have alone are two.
func TestBoxesApart(t *testing.T) {
	for _, c := range []struct {
		one, other string
		e          api.Event
		want       []int
	}{
		{"a<5", "!(a>=5)", of(), []int{2}}, {"a>=3 & a<9", "a>=4 & a<9", of(attr("a", whole(3))), []int{1}}, {"a<5", "a<6", of(attr("a", whole(5))), []int{2}}, {"a=0", "e=0", of(attr("a", whole(0))), []int{1}}, {"a=0", "a=0 & e=0", of(attr("a", whole(0))), []int{1}}, {"*", "a=0", of(), []int{1}}, {"a=0 & b", "a=0 & !b", of(attr("a", whole(0)), attr("b", truth(true))), []int{1}},
		{"b", "b=no", of(attr("b", truth(true))), []int{1}}, {"b", "?b", of(attr("b", truth(false))), []int{2}}, {`c>="x"`, `c>="y"`, of(attr("c", words("x"))), []int{1}}, {`c<"x"`, `c<"y"`, of(attr("c", words("x"))), []int{2}}, {`c>=""`, `c<"x"`, of(attr("c", words("x"))), []int{1}},
		{"?d", "d=(0,0)", of(attr("d", point(1, 1))), []int{1}}, {"?d", "d!=(0,0)", of(attr("d", point(0, 0))), []int{1}}, {"d=(0,0)", "d!=(0,0)", of(attr("d", point(0, 0))), []int{1}}, {"d~(0,0)/5", "d~(0,0)/6", of(attr("d", point(0, 6))), []int{2}}, {"d~(0,0)/5", "d~(0,1)/5", of(attr("d", point(0, 6))), []int{2}}, {"d~(1,0)/5", "d~(0,0)/5", of(attr("d", point(6, 0))), []int{1}}, {"!?d", "!(d~(0,0)/5)", of(attr("d", point(9, 9))), []int{2}}, {"d~(0,0)/9 & d!=(1,1) & d!=(0,0)", "d~(0,0)/9 & d!=(1,1)", of(attr("d", point(0, 0))), []int{2}}, {"d~(1,1)/9 & d=(0,0)", "d~(1,1)/9", of(attr("d", point(1, 0))), []int{2}},
		{"d~(0,0)/9 & d~(0,1)/9 & d~(0,2)/9 & d~(0,3)/9", "d~(0,0)/9 & d~(0,1)/9 & d~(0,2)/9 & d~(0,3)/8", of(attr("d", point(0, -6))), []int{1}}, {"?d & d!=(0,1) & d!=(0,2) & d!=(0,3) & d!=(0,4)", "?d & d!=(0,1) & d!=(0,2) & d!=(0,3) & d!=(0,5)", of(attr("d", point(0, 5))), []int{1}},
	} {
		wantMatch(t, indexOf(t, c.one, c.other), c.e, c.want...)
		// And the other way round, with the first one taken away.
		x := indexOf(t, c.other, c.one)
		wantMatch(t, x, c.e, 3-c.want[0])
		mustRemove(t, x, 3-c.want[0])
		wantMatch(t, x, c.e)
	}
}

// P7.2: as many fields as may be, each with a side.
func TestMatchWide(t *testing.T) {
	var s []api.Field
	var attrs []api.Attr
	var units []string
	for i := range api.MaxAttrs {
		name := string(rune('a' + i))
		s = append(s, api.Field{Name: name, Kind: api.Whole})
		attrs = append(attrs, attr(name, whole(1)))
		units = append(units, name+"=1")
	}
	x, fault := match.New(s)
	if fault != api.OK {
		t.Fatalf("New: error %d", fault)
	}
	mustAdd(t, x, 7, terms(t, strings.Join(units, " & ")))
	wantMatch(t, x, of(attrs...), 7)
	for i := range attrs {
		other := slices.Clone(attrs)
		other[i].Value.Whole = 2
		wantMatch(t, x, of(other...))
		wantMatch(t, x, of(slices.Delete(other, i, i+1)...))
	}
}

// P7.2: an event that does not fit.
func TestMatchFaults(t *testing.T) {
	for _, x := range []*match.Index{mustNew(t), indexOf(t, "*", "?a")} {
		for _, c := range []struct {
			e    api.Event
			want api.Errno
		}{
			{of(attr("q", whole(1))), api.ErrGone}, {of(attr("a", truth(true))), api.ErrType}, {of(attr("a", api.Value{})), api.ErrType}, {of(attr("A", whole(1))), api.ErrName}, {of(attr("b", truth(true)), attr("a", whole(1))), api.ErrForm}, {of(attr("d", api.Value{Kind: api.Point, Point: complex(0.5, 0)})), api.ErrArg}, {api.Event{Content: make([]byte, api.MaxContent+1)}, api.ErrLimit}, {of(make([]api.Attr, api.MaxAttrs+1)...), api.ErrLimit}, {of(attr("a", truth(true)), attr("q", whole(1))), api.ErrType}, {of(attr("q", whole(1)), attr("r", api.Value{})), api.ErrType},
		} {
			if fault := event.Fits(schema(), c.e); c.want != fault {
				t.Fatalf("Fits(%v): error %d, not %d", c.e, fault, c.want)
			}
			if l, fault := x.Match(c.e); len(l) != 0 || fault != c.want {
				t.Fatalf("Match(%v): %v, error %d, wanted %d", c.e, l, fault, c.want)
			}
			if is, fault := x.Any(c.e); is || fault != c.want {
				t.Fatalf("Any(%v): %v, error %d, wanted %d", c.e, is, fault, c.want)
			}
		}
	}
}

// P7.2: a predicate without what counts for nothing in it.
func TestTerms(t *testing.T) {
	junk := api.Value{Kind: api.Whole, Whole: 5, Words: "x", Truth: true, Point: 1i}
	x := mustNew(t)
	mustAdd(t, x, 3, []api.Term{
		{Op: api.Yes, Name: "Q", Cmp: 77, Value: junk, Radius: -1},
		{Op: api.Atom, Name: "b", Cmp: api.Is, Value: junk, Radius: 9},
		{Op: api.And, Name: "a", Cmp: api.Near, Value: junk, Radius: 9},
		{Op: api.Atom, Name: "a", Cmp: api.Has, Value: junk, Radius: 9},
		{Op: api.Not, Name: "a", Cmp: api.Near, Value: junk, Radius: 9},
		{Op: api.Or, Radius: 9},
		{Op: api.Atom, Name: "a", Cmp: api.Less, Value: junk, Radius: 9},
		{Op: api.Or},
		{Op: api.Atom, Name: "d", Cmp: api.Near, Value: api.Value{Kind: api.Point, Point: 3 + 4i, Whole: 7, Words: "x", Truth: true}, Radius: 9},
		{Op: api.Or},
		{Op: api.Atom, Name: "c", Cmp: api.Begins, Value: api.Value{Kind: api.Words, Words: "y", Whole: 7, Truth: true, Point: 2}, Radius: 1},
		{Op: api.Or},
	})
	want := terms(t, `* & b | !?a | a<5 | d~(3,4)/9 | c^"y"`)
	if l, there := x.Terms(3); !there || !slices.Equal(l, want) {
		t.Fatalf("Terms: %v, wanted %v", l, want)
	}
	for _, id := range []int{0, 1, 2, 4, -1, 35, math.MaxInt, math.MinInt} {
		if l, there := x.Terms(id); there || len(l) != 0 {
			t.Fatalf("Terms(%d): %v", id, l)
		}
	}
	mustRemove(t, x, 3)
	wantMatch(t, x, of(attr("b", truth(true))))
	wantMatch(t, x, of())
}

func sameBoxes(a, b [][]api.Side) bool {
	return len(a) == 0 && len(b) == 0 || reflect.DeepEqual(a, b)
}

// P7.2
func TestUnion(t *testing.T) {
	x := mustNew(t)
	texts := map[int]string{9: "a<5 | b", 2: "a=7 | a=3", 31: `c^"x" & !(d=(1,1))`, 4: "#", 32: "a<5"}
	for _, id := range []int{31, 9, 32, 2, 4} {
		mustAdd(t, x, id, terms(t, texts[id]))
	}
	var ps [][]api.Term
	for _, id := range []int{2, 4, 9, 31, 32} {
		ps = append(ps, terms(t, texts[id]))
	}
	want, _ := cover.Union(schema(), ps...)
	if l := x.Union(); len(l) != 4 || !sameBoxes(l, want) {
		t.Fatalf("Union: %+v, wanted %+v", l, want)
	}
	mustRemove(t, x, 9)
	want, _ = cover.Union(schema(), ps[0], ps[1], ps[3], ps[4])
	if l := x.Union(); len(l) != 3 || !sameBoxes(l, want) {
		t.Fatalf("Union: %+v, wanted %+v", l, want)
	}
	mustAdd(t, x, 1, terms(t, "*"))
	if l := x.Union(); len(l) != 1 || len(l[0]) != 0 {
		t.Fatalf("Union with all: %+v", l)
	}
	// More boxes than may be.
	y := mustNew(t)
	for id := 1; id <= 3; id++ {
		mustAdd(t, y, id, terms(t, strings.ReplaceAll("a=_1 | a=_2 | a=_3 | a=_4 | a=_5 | a=_6 | a=_7 | a=_8 | a=_9 | a=_0 | a=9_", "_", string(rune('0'+id)))))
	}
	if l := y.Union(); len(l) != 1 || len(l[0]) != 0 {
		t.Fatalf("Union of 33 boxes: %+v", l)
	}
	wantMatch(t, y, of(attr("a", whole(7))))
	wantMatch(t, y, of(attr("a", whole(27))), 2)
}

// P1
func TestNil(t *testing.T) {
	var x *match.Index
	bad := of(attr("", whole(1)))
	for _, fault := range []api.Errno{x.Add(1, terms(t, "*")), x.Add(0, nil), x.Remove(1), x.Remove(0)} {
		if fault != api.ErrNil {
			t.Fatalf("of a nil index: error %d", fault)
		}
	}
	for _, e := range []api.Event{of(), bad} {
		if l, fault := x.Match(e); len(l) != 0 || fault != api.ErrNil {
			t.Fatalf("Match of a nil index: %v, error %d", l, fault)
		}
		if is, fault := x.Any(e); is || fault != api.ErrNil {
			t.Fatalf("Any of a nil index: %v, error %d", is, fault)
		}
	}
	l, there := x.Terms(1)
	if there || len(l) != 0 || len(x.Ids()) != 0 || len(x.Union()) != 0 || x.Fork() != nil {
		t.Fatal("a nil index has something")
	}
}
