package event_test

import (
	"bytes"
	"math"
	"strings"
	"testing"

	"grapevine/api"
	"grapevine/event"
	"grapevine/value"
)

const longName = "abcdefghijklmnop" // MaxName bytes

func whole(n int64) api.Value  { return api.Value{Kind: api.Whole, Whole: n} }
func words(s string) api.Value { return api.Value{Kind: api.Words, Words: s} }
func truth(is bool) api.Value  { return api.Value{Kind: api.Truth, Truth: is} }
func point(x, y int) api.Value {
	return api.Value{Kind: api.Point, Point: complex(float64(x), float64(y))}
}

func attr(name string, v api.Value) api.Attr { return api.Attr{Name: name, Value: v} }

func of(attrs ...api.Attr) api.Event { return api.Event{Attrs: attrs} }

func holding(content string, attrs ...api.Attr) api.Event {
	return api.Event{Attrs: attrs, Content: []byte(content)}
}

func long(n int) string { return strings.Repeat("x", n) }

// names are n right names that rise, from first on.
func names(first byte, n int) []string {
	var l []string
	for i := range n {
		l = append(l, string(rune(int(first)+i)))
	}
	return l
}

// wide is an event of n attributes, named from b on.
func wide(n int) api.Event {
	var e api.Event
	for i, name := range names('b', n) {
		e.Attrs = append(e.Attrs, attr(name, whole(int64(i))))
	}
	return e
}

// rights are right events, no two of them the same.
func rights() []api.Event {
	return []api.Event{
		of(), holding("a"), holding("\x00"), holding(long(127)), holding(long(128)), holding(long(200)),
		of(attr("a", truth(true))), of(attr("a", truth(false))), of(attr("b", truth(true))), holding("x", attr("a", truth(true))),
		of(attr("a", whole(1))), of(attr("a", words("\x01"))), of(attr("a", point(1, 0))), of(attr("a-", whole(-5))), of(attr(longName, words(long(200)))),
		of(attr("a", whole(0)), attr("b", whole(0))), of(attr("a", words("")), attr("a-", truth(false)), attr("a0", point(-3, 1<<20)), attr("aa", whole(math.MinInt64))),
		wide(7), wide(8), holding(long(200), wide(8).Attrs...),
	}
}

// wrong is an event with what is wrong with it.
type wrong struct {
	e    api.Event
	want api.Errno
}

func wrongs() []wrong {
	half := api.Value{Kind: api.Point, Point: 0.5}
	return []wrong{
		{wide(9), api.ErrLimit}, {holding(long(201)), api.ErrLimit},
		{of(attr("", whole(0))), api.ErrName}, {of(attr("A", whole(0))), api.ErrName}, {of(attr("a", whole(0)), attr("0", whole(0))), api.ErrName},
		{of(attr("a", whole(0)), attr("a", whole(0))), api.ErrForm}, {of(attr("b", whole(0)), attr("a", whole(0))), api.ErrForm},
		{of(attr("a", whole(0)), attr("c", whole(0)), attr("b", whole(0))), api.ErrForm}, {of(attr("aa", whole(0)), attr("a", whole(0))), api.ErrForm},
		{of(attr("a", api.Value{})), api.ErrType}, {of(attr("a", api.Value{Kind: 5})), api.ErrType}, {of(attr("a", words(long(201)))), api.ErrLimit}, {of(attr("a", half)), api.ErrArg},
		{of(attr("a", whole(0)), attr("b", half)), api.ErrArg},
		// Where several apply, the one that is named first.
		{holding(long(201), attr("", api.Value{})), api.ErrLimit}, {api.Event{Attrs: make([]api.Attr, 9)}, api.ErrLimit},
		{of(attr("", api.Value{})), api.ErrName}, {of(attr("b", whole(0)), attr("A", half)), api.ErrName}, {of(attr("b", whole(0)), attr("a", half)), api.ErrForm},
		{of(attr("b", half), attr("a", whole(0))), api.ErrArg}, {of(attr("b", half), attr("", whole(0))), api.ErrArg}, {of(attr("b", whole(0)), attr("a", whole(0)), attr("", whole(0))), api.ErrForm},
	}
}

// equal: are all names, values in all fields, and the content the same?
func equal(a, b api.Event) bool {
	if len(a.Attrs) != len(b.Attrs) || !bytes.Equal(a.Content, b.Content) {
		return false
	}
	for i := range a.Attrs {
		if a.Attrs[i] != b.Attrs[i] {
			return false
		}
	}
	return true
}

func clone(e api.Event) api.Event {
	return api.Event{Attrs: append([]api.Attr(nil), e.Attrs...), Content: bytes.Clone(e.Content)}
}

// roomy is e with spare room behind both lists, of which the whole is answered too.
func roomy(e api.Event) (api.Event, api.Event) {
	all := clone(e)
	all.Attrs = append(all.Attrs, attr("spare", words("room")), attr("spare", words("room")))
	all.Content = append(all.Content, "spare room"...)
	return api.Event{Attrs: all.Attrs[:len(e.Attrs)], Content: all.Content[:len(e.Content)]}, all
}

func mustPut(t *testing.T, e api.Event) []byte {
	t.Helper()
	b, fault := event.Put(e)
	if fault != api.OK {
		t.Fatalf("Put(%v): error %d", e, fault)
	}
	return b
}

func wantTakeFault(t *testing.T, b []byte, at int, want api.Errno) {
	t.Helper()
	e, next, fault := event.Take(b, at)
	if fault != want {
		t.Fatalf("Take of % x at %d: error %d, wanted %d", b, at, fault, want)
	}
	if !equal(e, api.Event{}) || next != 0 {
		t.Fatalf("Take of % x at %d: error %d beside %v, %d", b, at, fault, e, next)
	}
}

// P4.1
func TestName(t *testing.T) {
	for _, s := range []string{"a", "z", "a0", "a9", "a-", "a-1", "z--", "price", longName, "a---------------"} {
		if !event.Name(s) {
			t.Fatalf("%q is right", s)
		}
	}
	for _, s := range []string{"", "1", "0a", "-", "-a", "A", "aA", "a_", "a b", "a.", "a/", "a:", "a`", "a{", "{", "`", " a", "a ", "a\x00", "\x00", "\xe4", "a\xff", "ä", longName + "q", long(17), long(5000)} {
		if event.Name(s) {
			t.Fatalf("%q is not right", s)
		}
	}
	for c := range 256 {
		letter := c >= 'a' && c <= 'z'
		other := c >= '0' && c <= '9' || c == '-'
		s := string([]byte{byte(c)})
		if event.Name(s) != letter || event.Name("a"+s) != (letter || other) || event.Name(longName[:15]+s) != (letter || other) {
			t.Fatalf("names with the byte %x", c)
		}
	}
}

// P4.1
func TestCheckSchema(t *testing.T) {
	field := func(name string, k api.Kind) api.Field { return api.Field{Name: name, Kind: k} }
	fields := func(n int) []api.Field {
		var l []api.Field
		for i, name := range names('a', n) {
			l = append(l, field(name, api.Kind(i%4+1)))
		}
		return l
	}
	for _, c := range []struct {
		l    []api.Field
		want api.Errno
	}{
		{nil, api.OK}, {[]api.Field{}, api.OK}, {fields(1), api.OK}, {fields(4), api.OK}, {fields(8), api.OK}, {fields(9), api.ErrLimit},
		{[]api.Field{field("a", api.Whole), field("a-", api.Point), field("aa", api.Words), field(longName, api.Truth)}, api.OK},
		{[]api.Field{field("", api.Whole)}, api.ErrName}, {[]api.Field{field("a", api.Whole), field("B", api.Whole)}, api.ErrName}, {[]api.Field{field(longName+"q", api.Whole)}, api.ErrName},
		{[]api.Field{field("a", api.Whole), field("a", api.Whole)}, api.ErrForm}, {[]api.Field{field("b", api.Whole), field("a", api.Whole)}, api.ErrForm},
		{[]api.Field{field("a", api.Whole), field("c", api.Whole), field("b", api.Whole)}, api.ErrForm}, {[]api.Field{field("aa", api.Whole), field("a-", api.Whole)}, api.ErrForm},
		{[]api.Field{field("a", api.NoKind)}, api.ErrType}, {[]api.Field{field("a", api.Point+1)}, api.ErrType}, {[]api.Field{field("a", -1)}, api.ErrType}, {[]api.Field{field("a", math.MinInt)}, api.ErrType},
		// Where several apply, the one that is named first.
		{make([]api.Field, 9), api.ErrLimit}, {make([]api.Field, 8), api.ErrName}, {[]api.Field{field("b", api.Whole), field("1", 0)}, api.ErrName},
		{[]api.Field{field("b", api.Whole), field("a", 0)}, api.ErrForm}, {[]api.Field{field("b", 0), field("a", api.Whole)}, api.ErrType}, {[]api.Field{field("b", api.Whole), field("a", api.Whole), field("", 0)}, api.ErrForm},
	} {
		if fault := event.CheckSchema(c.l); fault != c.want {
			t.Fatalf("CheckSchema(%v): error %d, wanted %d", c.l, fault, c.want)
		}
	}
}

// P4.1
func TestCheck(t *testing.T) {
	for _, e := range rights() {
		if fault := event.Check(e); fault != api.OK {
			t.Fatalf("Check(%v): error %d", e, fault)
		}
	}
	for _, w := range wrongs() {
		if fault := event.Check(w.e); fault != w.want {
			t.Fatalf("Check(%v): error %d, wanted %d", w.e, fault, w.want)
		}
	}
}

// P4.2
func TestFits(t *testing.T) {
	schema := []api.Field{{Name: "a", Kind: api.Whole}, {Name: "b", Kind: api.Words}, {Name: "c", Kind: api.Truth}, {Name: "d", Kind: api.Point}}
	for _, c := range []struct {
		l    []api.Field
		e    api.Event
		want api.Errno
	}{
		{nil, of(), api.OK}, {nil, holding("x"), api.OK}, {schema, of(), api.OK},
		{schema, of(attr("a", whole(1)), attr("b", words("x")), attr("c", truth(true)), attr("d", point(1, 1))), api.OK},
		{schema, of(attr("a", whole(1)), attr("d", point(1, 1))), api.OK}, {schema, of(attr("c", truth(false))), api.OK},
		{[]api.Field{{Name: "a", Kind: api.Whole}}, of(attr("a", truth(true))), api.ErrType},
		{nil, of(attr("a", whole(1))), api.ErrGone}, {schema, of(attr("e", whole(1))), api.ErrGone}, {schema, of(attr("a-", whole(1))), api.ErrGone}, {schema, of(attr("aa", whole(1))), api.ErrGone},
		{schema, of(attr("a", words(""))), api.ErrType}, {schema, of(attr("a", whole(1)), attr("d", whole(1))), api.ErrType},
		// Attribute by attribute.
		{schema, of(attr("a", truth(true)), attr("e", whole(1))), api.ErrType}, {schema, of(attr("a", whole(1)), attr("aa", whole(1)), attr("b", whole(1))), api.ErrGone},
		// The schema counts ahead of the event, and this one ahead of both together.
		{make([]api.Field, 9), of(attr("", whole(1))), api.ErrLimit}, {[]api.Field{{Name: "a"}}, of(attr("", whole(1))), api.ErrType}, {[]api.Field{{Name: "b", Kind: 1}, {Name: "a", Kind: 1}}, wide(9), api.ErrForm},
		{nil, of(attr("a", whole(1)), attr("", whole(1))), api.ErrName}, {schema, of(attr("a", words("")), attr("a", words(""))), api.ErrForm},
	} {
		if fault := event.Fits(c.l, c.e); fault != c.want {
			t.Fatalf("Fits(%v, %v): error %d, wanted %d", c.l, c.e, fault, c.want)
		}
	}
	for _, w := range wrongs() {
		if fault := event.Fits(schema, w.e); fault != w.want {
			t.Fatalf("Fits of %v: error %d, wanted %d", w.e, fault, w.want)
		}
	}
}

// P4.2: of any event, the first attribute of that name.
func TestGet(t *testing.T) {
	for _, c := range []struct {
		e    api.Event
		name string
		want api.Value
		ok   bool
	}{
		{of(), "a", api.Value{}, false}, {of(), "", api.Value{}, false}, {wide(3), "c", whole(1), true}, {wide(3), "a", api.Value{}, false}, {wide(3), "e", api.Value{}, false},
		{of(attr("a", words("x")), attr("b", truth(true))), "b", truth(true), true}, {of(attr("ab", words("x"))), "a", api.Value{}, false}, {of(attr("a", words("x"))), "ab", api.Value{}, false},
		{of(attr("b", whole(1)), attr("a", whole(2)), attr("b", whole(3))), "b", whole(1), true}, {of(attr("b", whole(1)), attr("a", whole(2)), attr("a", whole(3))), "a", whole(2), true},
		{of(attr("", words(long(300)))), "", words(long(300)), true}, {of(attr("A!", api.Value{Kind: 77})), "A!", api.Value{Kind: 77}, true}, {wide(20), "u", whole(19), true},
	} {
		if v, ok := event.Get(c.e, c.name); v != c.want || ok != c.ok {
			t.Fatalf("Get(%v, %q): %v, %v", c.e, c.name, v, ok)
		}
	}
}

// P4.3
func TestWith(t *testing.T) {
	two := holding("text", attr("b", whole(1)), attr("d", words("x")))
	for _, c := range []struct {
		e    api.Event
		a    api.Attr
		want api.Event
	}{
		{of(), attr("a", point(1, 2)), of(attr("a", point(1, 2)))}, {two, attr("a", truth(true)), holding("text", attr("a", truth(true)), two.Attrs[0], two.Attrs[1])},
		{two, attr("b", truth(true)), holding("text", attr("b", truth(true)), two.Attrs[1])}, {two, attr("c", truth(true)), holding("text", two.Attrs[0], attr("c", truth(true)), two.Attrs[1])},
		{two, attr("d", whole(9)), holding("text", two.Attrs[0], attr("d", whole(9)))}, {two, attr("e", whole(9)), holding("text", two.Attrs[0], two.Attrs[1], attr("e", whole(9)))},
		{two, attr("b-", whole(9)), holding("text", two.Attrs[0], attr("b-", whole(9)), two.Attrs[1])}, {wide(7), attr("i", whole(7)), wide(8)},
		{wide(8), attr("i", truth(true)), of(append(wide(7).Attrs, attr("i", truth(true)))...)}, {wide(8), attr("b", whole(0)), wide(8)},
	} {
		if got, fault := event.With(c.e, c.a); fault != api.OK || !equal(got, c.want) {
			t.Fatalf("With(%v, %v): %v, error %d", c.e, c.a, got, fault)
		}
	}
}

// P4.3: the errors of With, in their order.
func TestWithFaults(t *testing.T) {
	want := func(e api.Event, a api.Attr, want api.Errno) {
		t.Helper()
		if got, fault := event.With(e, a); fault != want || !equal(got, api.Event{}) {
			t.Fatalf("With(%v, %v): %v, error %d, wanted %d", e, a, got, fault, want)
		}
	}
	for _, w := range wrongs() {
		want(w.e, attr("z", whole(1)), w.want)
		want(w.e, attr("", whole(1)), w.want)
	}
	want(of(), attr("", whole(1)), api.ErrName)
	want(of(), attr(longName+"q", whole(1)), api.ErrName)
	want(wide(8), attr("Z", api.Value{}), api.ErrName)
	want(of(), attr("z", api.Value{}), api.ErrType)
	want(wide(8), attr("z", words(long(201))), api.ErrLimit)
	want(wide(8), attr("z", api.Value{Kind: api.Point, Point: 0.5}), api.ErrArg)
	want(wide(8), attr("z", whole(1)), api.ErrLimit)
	want(wide(8), attr("a", whole(1)), api.ErrLimit)
	want(wide(8), attr("c-", whole(1)), api.ErrLimit)
}

// P4.3
func TestWithout(t *testing.T) {
	three := holding("text", attr("b", whole(1)), attr("c", words("x")), attr("d", truth(true)))
	for _, c := range []struct {
		e    api.Event
		name string
		want api.Event
	}{
		{of(attr("a", whole(1))), "a", of()}, {three, "b", holding("text", three.Attrs[1:]...)}, {three, "c", holding("text", three.Attrs[0], three.Attrs[2])}, {three, "d", holding("text", three.Attrs[:2]...)}, {wide(8), "i", wide(7)},
	} {
		if got, fault := event.Without(c.e, c.name); fault != api.OK || !equal(got, c.want) {
			t.Fatalf("Without(%v, %q): %v, error %d", c.e, c.name, got, fault)
		}
	}
	want := func(e api.Event, name string, want api.Errno) {
		t.Helper()
		if got, fault := event.Without(e, name); fault != want || !equal(got, api.Event{}) {
			t.Fatalf("Without(%v, %q): %v, error %d, wanted %d", e, name, got, fault, want)
		}
	}
	for _, name := range []string{"", "a", "b-", "bb", "e", "B", long(100)} {
		want(three, name, api.ErrGone)
		want(of(), name, api.ErrGone)
	}
	for _, w := range wrongs() {
		want(w.e, "a", w.want)
		want(w.e, "none", w.want)
	}
}

// P4.4
func TestPutBytes(t *testing.T) {
	for _, c := range []struct {
		e    api.Event
		want string
	}{
		{of(), "\x00\x00"}, {of(attr("a", truth(true))), "\x01\x01a\x03\x01\x00"}, {holding("xy"), "\x00\x02xy"}, {holding(long(200)), "\x00\xc8\x01" + long(200)},
		{holding("\x00", attr("a", whole(-1)), attr("b-2", words("hi")), attr("c", point(2, -1))), "\x03\x01a\x01\x01\x03b-2\x02\x02hi\x01c\x04\x04\x01\x01\x00"},
	} {
		if got := mustPut(t, c.e); string(got) != c.want {
			t.Fatalf("Put(%v): % x", c.e, got)
		}
	}
	for _, w := range wrongs() {
		if b, fault := event.Put(w.e); fault != w.want || len(b) != 0 {
			t.Fatalf("Put(%v): % x, error %d, wanted %d", w.e, b, fault, w.want)
		}
	}
}

// P4.4: places that may not be, and the errors of Take, in their order.
func TestTakeFaults(t *testing.T) {
	for _, b := range [][]byte{nil, {}, {0, 0}, make([]byte, 20)} {
		for _, at := range []int{-1, math.MinInt, len(b) + 1, math.MaxInt} {
			wantTakeFault(t, b, at, api.ErrArg)
		}
		wantTakeFault(t, b, len(b), api.ErrShort)
	}
	nine := strings.Repeat("\x80", 9)
	for _, c := range []struct {
		b    string
		want api.Errno
	}{
		{"\x80", api.ErrShort}, {"\x80\x00", api.ErrForm}, {nine + "\x02", api.ErrLimit}, {"\x09", api.ErrLimit}, {nine + "\x01", api.ErrLimit}, {"\x09\x80\x00", api.ErrLimit},
		{"\x01", api.ErrShort}, {"\x01\x80", api.ErrShort}, {"\x01\x80\x00", api.ErrForm}, {"\x01\x01", api.ErrShort}, {"\x01\xc9\x01", api.ErrLimit}, {"\x01\x11" + longName, api.ErrShort},
		{"\x01\x00", api.ErrName}, {"\x01\x01A", api.ErrName}, {"\x01\x11" + longName + "q", api.ErrName}, {"\x01\xc8\x01" + long(200), api.ErrName}, {"\x01\x01-\x05", api.ErrName},
		{"\x02\x01a\x03\x01\x01a", api.ErrForm}, {"\x02\x01b\x03\x01\x01a\x05", api.ErrForm}, {"\x02\x02aa\x03\x01\x01a", api.ErrForm}, {"\x03\x01a\x03\x01\x01c\x03\x01\x01b", api.ErrForm}, {"\x02\x01b\x03\x01\x01A", api.ErrName},
		{"\x01\x01a", api.ErrShort}, {"\x01\x01a\x00", api.ErrType}, {"\x01\x01a\x05", api.ErrType}, {"\x01\x01a\x03", api.ErrShort}, {"\x01\x01a\x03\x02", api.ErrForm}, {"\x01\x01a\x02\xc9\x01", api.ErrLimit},
		{"\x02\x01a\x03\x02\x01A", api.ErrForm}, {"\x02\x01a\x05\x01A", api.ErrType}, {"\x02\x01a\x03\x01", api.ErrShort},
		{"\x00", api.ErrShort}, {"\x00\x80", api.ErrShort}, {"\x00\x80\x00", api.ErrForm}, {"\x00" + nine + "\x02", api.ErrLimit}, {"\x00\xc9\x01", api.ErrLimit}, {"\x00\xc9\x01" + long(201), api.ErrLimit}, {"\x00" + nine + "\x01", api.ErrLimit},
		{"\x00\x01", api.ErrShort}, {"\x00\xc8\x01" + long(199), api.ErrShort}, {"\x01\x01a\x03\x01", api.ErrShort}, {"\x01\x01a\x03\x01\x02x", api.ErrShort},
	} {
		wantTakeFault(t, []byte(c.b), 0, c.want)
		wantTakeFault(t, []byte("\x00"+c.b), 1, c.want)
	}
}

// P4.4
func TestSame(t *testing.T) {
	l := rights()
	for i, a := range l {
		for j, b := range l {
			if event.Same(a, clone(b)) != (i == j) {
				t.Fatalf("Same(%v, %v): not %v", a, b, i == j)
			}
		}
		for _, w := range wrongs() {
			if event.Same(a, w.e) || event.Same(w.e, a) {
				t.Fatalf("%v and %v are told to be the same", a, w.e)
			}
		}
	}
	for _, w := range wrongs() {
		if event.Same(w.e, w.e) {
			t.Fatalf("%v is not right, and told to be the same as itself", w.e)
		}
	}
	littered := of(attr("a", api.Value{Kind: api.Whole, Whole: 1, Words: "x", Truth: true, Point: 0.5}))
	if !event.Same(littered, of(attr("a", whole(1)))) || !event.Same(api.Event{Attrs: []api.Attr{}, Content: []byte{}}, api.Event{}) {
		t.Fatal("what counts for nothing counts")
	}
	minus := api.Value{Kind: api.Point, Point: complex(math.Copysign(0, -1), 0)}
	if !event.Same(of(attr("a", minus)), of(attr("a", point(0, 0)))) {
		t.Fatal("0 and -0 are told to be two")
	}
}

// P4.5
func TestTakenAsPut(t *testing.T) {
	for _, around := range [][]byte{nil, {0}, {0xff, 0xff}, {1, 1, 'a', 1, 2, 3, 4, 5, 6, 7, 8}} {
		for _, e := range rights() {
			b := mustPut(t, e)
			got, next, fault := event.Take(bytes.Join([][]byte{around, b, around}, nil), len(around))
			if fault != api.OK || next != len(around)+len(b) || !equal(got, e) {
				t.Fatalf("%v within % x: %v, %d, error %d", e, around, got, next, fault)
			}
			for cut := range len(b) {
				wantTakeFault(t, append(bytes.Clone(around), b[:cut]...), len(around), api.ErrShort)
			}
		}
	}
}

// P4.5: bytes that are taken are those that are put.
func putAgain(t *testing.T, b []byte, at int) {
	t.Helper()
	e, next, fault := event.Take(b, at)
	if fault != api.OK {
		wantTakeFault(t, b, at, fault)
		return
	}
	if got := mustPut(t, e); next > len(b) || !bytes.Equal(got, b[at:next]) {
		t.Fatalf("Take of % x at %d: %v up to %d, put as % x", b, at, e, next, got)
	}
}

// P4.5: each byte of what is put, changed in all ways.
func TestNoOtherBytes(t *testing.T) {
	for _, e := range rights() {
		b := mustPut(t, e)
		for at := range min(len(b), 40) {
			was := b[at]
			for c := range 256 {
				b[at] = byte(c)
				putAgain(t, b, 0)
				if got, _, fault := event.Take(b, 0); byte(c) != was && fault == api.OK && event.Same(got, e) {
					t.Fatalf("% x is taken for %v too", b, e)
				}
			}
			b[at] = was
		}
	}
}

// P4.6
func TestGetBehind(t *testing.T) {
	asked := append(names('a', 12), "a-", "aa", longName, "", "B")
	keeps := func(was, is api.Event, but string) {
		t.Helper()
		if fault := event.Check(is); fault != api.OK {
			t.Fatalf("%v is not right: error %d", is, fault)
		}
		if !bytes.Equal(was.Content, is.Content) {
			t.Fatalf("the content of %v became that of %v", was, is)
		}
		for _, name := range asked {
			v, ok := event.Get(was, name)
			if w, also := event.Get(is, name); name != but && (v != w || ok != also) {
				t.Fatalf("%q of %v became that of %v", name, was, is)
			}
		}
	}
	for _, e := range rights() {
		for _, name := range asked {
			for _, v := range []api.Value{whole(77), words(long(200)), truth(true), point(4, -4)} {
				with, fault := event.With(e, attr(name, v))
				if fault != api.OK {
					continue
				}
				if got, ok := event.Get(with, name); !ok || got != v {
					t.Fatalf("behind With, %q is %v", name, got)
				}
				keeps(e, with, name)
			}
			without, fault := event.Without(e, name)
			if fault != api.OK {
				continue
			}
			if _, ok := event.Get(without, name); ok {
				t.Fatalf("behind Without, %q is there", name)
			}
			keeps(e, without, name)
		}
	}
}

// P3: what is handed in stays, spare room too.
func TestHandedInStays(t *testing.T) {
	for _, e := range rights() {
		given, all := roomy(e)
		was := clone(all)
		event.Check(given)
		event.Fits([]api.Field{{Name: "a", Kind: api.Truth}}, given)
		event.With(given, attr("a", whole(5)))
		event.With(given, attr("zz", whole(5)))
		for _, name := range names('a', 10) {
			event.Without(given, name)
		}
		event.Put(given)
		event.Same(given, given)
		if !equal(all, was) {
			t.Fatalf("%v became %v", was, all)
		}
		b := append(mustPut(t, e), "spare"...)
		bytesWere := bytes.Clone(b)
		event.Take(b[:len(b)-5], 0)
		if !bytes.Equal(b, bytesWere) {
			t.Fatalf("Take changed % x", bytesWere)
		}
	}
}

// spoil changes all that is in the lists of e, and in the room behind them.
func spoil(e api.Event) {
	clear(e.Attrs[:cap(e.Attrs)])
	content := e.Content[:cap(e.Content)]
	for i := range content {
		content[i] ^= 0xff
	}
}

// P3: what is answered is new memory.
func TestAnsweredIsNew(t *testing.T) {
	for _, e := range rights() {
		for _, name := range []string{"a", "c", "zz"} {
			for _, call := range []func(api.Event) (api.Event, api.Errno){
				func(e api.Event) (api.Event, api.Errno) { return event.With(e, attr(name, whole(5))) },
				func(e api.Event) (api.Event, api.Errno) { return event.Without(e, name) },
			} {
				given, all := roomy(e)
				first, _ := call(given)
				kept := clone(first)
				spoil(all)
				if !equal(first, kept) {
					t.Fatalf("an answer lies in what was handed in: %v", e)
				}
				given, all = roomy(e)
				was := clone(all)
				again, _ := call(given)
				spoil(first)
				if !equal(again, kept) {
					t.Fatalf("an answer lies in another one: %v", e)
				}
				spoil(again)
				if !equal(all, was) {
					t.Fatalf("what was handed in lies in an answer: %v", e)
				}
			}
		}
		b := mustPut(t, e)
		got, _, _ := event.Take(b, 0)
		clear(b[:cap(b)])
		if !equal(got, e) {
			t.Fatalf("%v lies in the bytes that it was taken from", e)
		}
		b = mustPut(t, e)
		was := bytes.Clone(b)
		got, _, _ = event.Take(b, 0)
		spoil(got)
		if !bytes.Equal(b, was) {
			t.Fatalf("the bytes of %v lie in what was taken from them", e)
		}
	}
}

// P1, P4.5: any bytes, any place.
func FuzzAnyBytes(f *testing.F) {
	for _, e := range rights() {
		b, _ := event.Put(e)
		f.Add(b, 0)
	}
	f.Add([]byte{9, 1}, 0)
	f.Add([]byte{0, 0}, -1)
	f.Fuzz(func(t *testing.T, b []byte, at int) { putAgain(t, b, at) })
}

// P1, P4.6: any attribute.
func FuzzAnyAttr(f *testing.F) {
	f.Add("a", 1, int64(4), "x", 1.0, 2.0)
	f.Add("", 4, int64(4), "x", math.NaN(), 2.0)
	f.Add("b-0", 2, int64(4), "x\x00", 0.5, 2.0)
	f.Fuzz(func(t *testing.T, name string, kind int, n int64, s string, x, y float64) {
		v := api.Value{Kind: api.Kind(kind), Whole: n, Words: s, Point: complex(x, y)}
		event.CheckSchema([]api.Field{{Name: name, Kind: v.Kind}})
		for _, e := range append(rights(), of(attr(name, v)), holding(s, attr(name, v), attr(s, v))) {
			event.Fits([]api.Field{{Name: name, Kind: v.Kind}}, e)
			event.Same(e, e)
			event.Put(e)
			event.Without(e, name)
			with, fault := event.With(e, attr(name, v))
			if fault != api.OK {
				continue
			}
			if got, ok := event.Get(with, name); !ok || !value.Same(got, v) || event.Check(with) != api.OK {
				t.Fatalf("With(%v, %q, %v): %v", e, name, v, with)
			}
		}
	})
}
