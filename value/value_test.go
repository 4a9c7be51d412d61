package value_test

import (
	"bytes"
	"math"
	"strings"
	"testing"

	"grapevine/api"
	"grapevine/octet"
	"grapevine/value"
)

const far = api.MaxPart

func whole(n int64) api.Value  { return api.Value{Kind: api.Whole, Whole: n} }
func words(s string) api.Value { return api.Value{Kind: api.Words, Words: s} }
func truth(is bool) api.Value  { return api.Value{Kind: api.Truth, Truth: is} }
func point(x, y int) api.Value { return part(float64(x), float64(y)) }
func part(x, y float64) api.Value {
	return api.Value{Kind: api.Point, Point: complex(x, y)}
}

func below0() float64 { return math.Copysign(0, -1) }

func long(n int) string { return strings.Repeat("x", n) }

// rights are right values of all kinds, no two of them the same.
func rights() []api.Value {
	l := []api.Value{truth(false), truth(true)}
	for _, n := range []int64{0, 1, -1, 63, 64, -64, -65, 255, 256, 1 << 40, -1 << 40, math.MaxInt64, math.MinInt64} {
		l = append(l, whole(n))
	}
	for _, s := range []string{"", "a", "a\x00", "a\x00\x00", "a\x00\xff", "a\x00a", "a\x01", "aa", "b", "\x00", "\x00\x00", "\x00\xff", "\x00\xff\x00", "\xff", "\xff\xff", "\x01", long(199), long(200), long(127), long(128)} {
		l = append(l, words(s))
	}
	for _, x := range []int{0, 1, -1, 2, 63, -64, 64, far - 1, far, -far} {
		for _, y := range []int{0, 1, -1, 5, far, -far, -far + 1} {
			l = append(l, point(x, y))
		}
	}
	return l
}

// wrong is a value with what is wrong with it.
type wrong struct {
	v    api.Value
	want api.Errno
}

func wrongs() []wrong {
	l := []wrong{
		{words(long(201)), api.ErrLimit}, {words(long(5000)), api.ErrLimit},
	}
	for _, k := range []api.Kind{api.NoKind, -1, api.Point + 1, 257, math.MaxInt, math.MinInt} {
		l = append(l, wrong{api.Value{Kind: k}, api.ErrType}, wrong{api.Value{Kind: k, Words: long(300), Point: 0.5}, api.ErrType})
	}
	for _, x := range []float64{0.5, -0.5, far + 1, -far - 1, far + 0.5, -far - 0.5, math.Nextafter(far, 0), math.Nextafter(far, 1e9), 1e300, -1e300, math.MaxFloat64, math.SmallestNonzeroFloat64, math.NaN(), math.Inf(1), math.Inf(-1)} {
		l = append(l, wrong{part(x, 0), api.ErrArg}, wrong{part(0, x), api.ErrArg}, wrong{part(x, x), api.ErrArg})
	}
	return l
}

// littered is v with something in all fields of other kinds, right or not.
func littered(v api.Value) api.Value {
	if v.Kind != api.Whole {
		v.Whole = -7
	}
	if v.Kind != api.Words {
		v.Words = long(300)
	}
	if v.Kind != api.Truth {
		v.Truth = true
	}
	if v.Kind != api.Point {
		v.Point = complex(math.NaN(), 0.5)
	}
	return v
}

// exact: are they the same in all fields, bit by bit?
func exact(a, b api.Value) bool {
	return a.Kind == b.Kind && a.Whole == b.Whole && a.Words == b.Words && a.Truth == b.Truth &&
		math.Float64bits(real(a.Point)) == math.Float64bits(real(b.Point)) &&
		math.Float64bits(imag(a.Point)) == math.Float64bits(imag(b.Point))
}

func mustPut(t *testing.T, v api.Value) []byte {
	t.Helper()
	b, fault := value.Put(v)
	if fault != api.OK {
		t.Fatalf("Put(%v): error %d", v, fault)
	}
	return b
}

func mustKey(t *testing.T, v api.Value) []byte {
	t.Helper()
	b, fault := value.Key(v)
	if fault != api.OK {
		t.Fatalf("Key(%v): error %d", v, fault)
	}
	return b
}

func mustLess(t *testing.T, a, b api.Value) bool {
	t.Helper()
	less, fault := value.Less(a, b)
	if fault != api.OK {
		t.Fatalf("Less(%v, %v): error %d", a, b, fault)
	}
	return less
}

func wantTakeFault(t *testing.T, b []byte, at int, want api.Errno) {
	t.Helper()
	v, next, fault := value.Take(b, at)
	if fault != want {
		t.Fatalf("Take of % x at %d: error %d, wanted %d", b, at, fault, want)
	}
	if !exact(v, api.Value{}) || next != 0 {
		t.Fatalf("Take of % x at %d: error %d beside %v, %d", b, at, fault, v, next)
	}
}

// P3.1
func TestCheck(t *testing.T) {
	for _, v := range rights() {
		if fault := value.Check(v); fault != api.OK {
			t.Fatalf("Check(%v): error %d", v, fault)
		}
		if fault := value.Check(littered(v)); fault != api.OK {
			t.Fatalf("Check(%v) with other fields: error %d", v, fault)
		}
	}
	for _, w := range wrongs() {
		if fault := value.Check(w.v); fault != w.want {
			t.Fatalf("Check(%v): error %d, wanted %d", w.v, fault, w.want)
		}
	}
	if fault := value.Check(part(below0(), below0())); fault != api.OK {
		t.Fatalf("a part that is -0: error %d", fault)
	}
}

// P3.1
func TestSame(t *testing.T) {
	l := rights()
	for i, a := range l {
		for j, b := range l {
			if value.Same(a, b) != (i == j) || value.Same(littered(a), b) != (i == j) || value.Same(a, littered(b)) != (i == j) {
				t.Fatalf("Same(%v, %v): not %v", a, b, i == j)
			}
		}
		for _, w := range wrongs() {
			if value.Same(a, w.v) || value.Same(w.v, a) {
				t.Fatalf("%v and %v are told to be the same", a, w.v)
			}
		}
	}
	for _, w := range wrongs() {
		if value.Same(w.v, w.v) {
			t.Fatalf("%v is not right, and told to be the same as itself", w.v)
		}
	}
	if !value.Same(part(below0(), 0), part(0, below0())) {
		t.Fatal("0 and -0 are told to be two points")
	}
}

// P3.1: rows of one kind that rise.
func TestLess(t *testing.T) {
	rows := [][]api.Value{
		{truth(false), truth(true)},
		{whole(math.MinInt64), whole(math.MinInt64 + 1), whole(-256), whole(-1), whole(0), whole(1), whole(255), whole(1 << 40), whole(math.MaxInt64)},
		{words(""), words("\x00"), words("\x00\x00"), words("\x00\xff"), words("\x01"), words("B"), words("a"), words("a\x00"), words("a\x00\xff"), words("a\x01"), words("aa"), words("b"), words("\x7f"), words("\x80"), words("\xff")},
	}
	for _, row := range rows {
		for i, a := range row {
			for j, b := range row {
				if mustLess(t, a, b) != (i < j) || mustLess(t, littered(a), littered(b)) != (i < j) {
					t.Fatalf("Less(%v, %v): not %v", a, b, i < j)
				}
			}
		}
	}
}

// P3.1: the errors of Less, in their order.
func TestLessFaults(t *testing.T) {
	want := func(a, b api.Value, want api.Errno) {
		t.Helper()
		if less, fault := value.Less(a, b); fault != want || less {
			t.Fatalf("Less(%v, %v): %v, error %d, wanted %d", a, b, less, fault, want)
		}
	}
	kinds := []api.Value{whole(-5), words("a"), truth(false), point(0, 1)}
	for i, a := range kinds {
		for j, b := range kinds {
			if i != j {
				want(a, b, api.ErrType)
			}
		}
		for _, w := range wrongs() {
			want(a, w.v, w.want)
			want(w.v, a, w.want)
		}
	}
	want(point(0, 0), point(1, 1), api.ErrType)
	want(point(0, 0), point(0, 0), api.ErrType)
	want(words(long(201)), part(0.5, 0), api.ErrLimit)
	want(part(0.5, 0), words(long(201)), api.ErrArg)
	want(api.Value{}, words(long(201)), api.ErrType)
}

// P3.2
func TestPutBytes(t *testing.T) {
	for _, c := range []struct {
		v    api.Value
		want string
	}{
		{whole(-1), "\x01\x01"}, {whole(0), "\x01\x00"}, {whole(150), "\x01\xac\x02"},
		{whole(math.MinInt64), "\x01\xff\xff\xff\xff\xff\xff\xff\xff\xff\x01"},
		{words(""), "\x02\x00"}, {words("a\x00"), "\x02\x02a\x00"}, {words(long(200)), "\x02\xc8\x01" + long(200)},
		{truth(false), "\x03\x00"}, {truth(true), "\x03\x01"},
		{point(2, -1), "\x04\x04\x01"}, {point(0, 0), "\x04\x00\x00"}, {part(below0(), below0()), "\x04\x00\x00"},
		{point(far, -far), "\x04\x80\x80\x80\x01\xff\xff\x7f"},
	} {
		if got := mustPut(t, c.v); string(got) != c.want {
			t.Fatalf("Put(%v): % x", c.v, got)
		}
		if got := mustPut(t, littered(c.v)); string(got) != c.want {
			t.Fatalf("Put(%v) with other fields: % x", c.v, got)
		}
	}
	for _, w := range wrongs() {
		if b, fault := value.Put(w.v); fault != w.want || len(b) != 0 {
			t.Fatalf("Put(%v): % x, error %d, wanted %d", w.v, b, fault, w.want)
		}
	}
}

// P3.2: places that may not be, and the place behind the end.
func TestTakePlaces(t *testing.T) {
	for _, b := range [][]byte{nil, {}, {1, 0}, {3, 1}, make([]byte, 20)} {
		for _, at := range []int{-1, math.MinInt, len(b) + 1, math.MaxInt} {
			wantTakeFault(t, b, at, api.ErrArg)
		}
		wantTakeFault(t, b, len(b), api.ErrShort)
	}
}

// P3.2: the errors of Take, in their order.
func TestTakeFaults(t *testing.T) {
	nine := strings.Repeat("\x80", 9)
	over := "\x82\x80\x80\x01"  // octet.Int of far + 1
	under := "\x81\x80\x80\x01" // octet.Int of -far - 1
	for _, c := range []struct {
		b    string
		want api.Errno
	}{
		{"\x00", api.ErrType}, {"\x05", api.ErrType}, {"\xff", api.ErrType}, {"\x05\x80\x00", api.ErrType}, {"\x00\x00\x00", api.ErrType},
		{"\x01", api.ErrShort}, {"\x01\x80", api.ErrShort}, {"\x01\x80\x00", api.ErrForm}, {"\x01" + nine + "\x02", api.ErrLimit},
		{"\x02", api.ErrShort}, {"\x02\x80", api.ErrShort}, {"\x02\x80\x00", api.ErrForm}, {"\x02" + nine + "\x02", api.ErrLimit},
		{"\x02\xc9\x01", api.ErrLimit}, {"\x02\xc9\x01" + long(201), api.ErrLimit}, {"\x02\x02a", api.ErrShort}, {"\x02\xc8\x01" + long(199), api.ErrShort},
		{"\x03", api.ErrShort}, {"\x03\x02", api.ErrForm}, {"\x03\xff", api.ErrForm}, {"\x03\x81\x00", api.ErrForm},
		{"\x04", api.ErrShort}, {"\x04\x80", api.ErrShort}, {"\x04\x80\x00", api.ErrForm}, {"\x04" + nine + "\x02", api.ErrLimit},
		{"\x04\x00", api.ErrShort}, {"\x04\x00\x80", api.ErrShort}, {"\x04\x00\x80\x00", api.ErrForm}, {"\x04\x00" + nine + "\x02", api.ErrLimit},
		{"\x04" + over + "\x00", api.ErrLimit}, {"\x04" + under + "\x00", api.ErrLimit}, {"\x04\x00" + over, api.ErrLimit}, {"\x04\x00" + under, api.ErrLimit},
		// From the left: what is wrong with the first part counts ahead of what is wrong with the second one.
		{"\x04" + over, api.ErrLimit}, {"\x04" + under + "\x80", api.ErrLimit}, {"\x04" + over + "\x80\x00", api.ErrLimit}, {"\x04\x80\x00" + over, api.ErrForm},
		// Numbers that a float could not hold.
		{"\x04" + string(octet.Int(math.MinInt64)) + "\x00", api.ErrLimit}, {"\x04\x00" + string(octet.Int(math.MaxInt64)), api.ErrLimit},
	} {
		wantTakeFault(t, []byte(c.b), 0, c.want)
		wantTakeFault(t, []byte("\x01"+c.b), 1, c.want)
	}
}

// P3.2: a value that is taken has nothing in the fields of other kinds.
func TestTakeFields(t *testing.T) {
	for _, v := range rights() {
		b := mustPut(t, littered(v))
		got, next, fault := value.Take(b, 0)
		if fault != api.OK || next != len(b) || !exact(got, v) {
			t.Fatalf("Take of % x: %v, %d, error %d", b, got, next, fault)
		}
	}
	if got, _, _ := value.Take(mustPut(t, part(below0(), below0())), 0); !exact(got, point(0, 0)) {
		t.Fatal("-0 was not put as 0")
	}
}

// P3.3
func TestKeyBytes(t *testing.T) {
	for _, c := range []struct {
		v    api.Value
		want string
	}{
		{whole(0), "\x01\x80\x00\x00\x00\x00\x00\x00\x00"}, {whole(-1), "\x01\x7f\xff\xff\xff\xff\xff\xff\xff"},
		{words(""), "\x02\x00\x00"}, {words("a"), "\x02a\x00\x00"}, {words("a\x00"), "\x02a\x00\xff\x00\x00"}, {words("\x00\x00b\xff"), "\x02\x00\xff\x00\xffb\xff\x00\x00"},
		{words(long(200)), "\x02" + long(200) + "\x00\x00"}, {words(strings.Repeat("\x00", 200)), "\x02" + strings.Repeat("\x00\xff", 200) + "\x00\x00"},
		{truth(false), "\x03\x00"}, {truth(true), "\x03\x01"},
		{point(2, -1), "\x04\x80\x00\x00\x00\x00\x00\x00\x02\x7f\xff\xff\xff\xff\xff\xff\xff"},
		{part(below0(), below0()), "\x04\x80\x00\x00\x00\x00\x00\x00\x00\x80\x00\x00\x00\x00\x00\x00\x00"},
	} {
		if got := mustKey(t, c.v); string(got) != c.want {
			t.Fatalf("Key(%v): % x", c.v, got)
		}
		if got := mustKey(t, littered(c.v)); string(got) != c.want {
			t.Fatalf("Key(%v) with other fields: % x", c.v, got)
		}
	}
	for _, w := range wrongs() {
		if b, fault := value.Key(w.v); fault != w.want || len(b) != 0 {
			t.Fatalf("Key(%v): % x, error %d, wanted %d", w.v, b, fault, w.want)
		}
	}
}

// P3.4
func TestTurn(t *testing.T) {
	for _, c := range []struct{ a, b, want api.Value }{
		{point(1, 2), point(3, -1), point(5, 5)}, {point(0, 0), point(-3, 4), point(0, 0)}, {point(0, 1), point(0, 1), point(-1, 0)},
		{point(far, 0), point(-1, 0), point(-far, 0)}, {point(far, far), point(0, 1), point(-far, far)}, {point(1024, 0), point(0, -1024), point(0, -far)},
		{point(far, -far), point(1, 0), point(far, -far)}, {part(below0(), 0), point(1, 0), point(0, 0)}, {part(below0(), below0()), part(0, below0()), point(0, 0)},
		{point(1, 1), point(1, 1), point(0, 2)}, {point(1, 0), part(5, below0()), point(5, 0)}, {point(-1, 0), point(-1, 0), point(1, 0)},
	} {
		for _, pair := range [][2]api.Value{{c.a, c.b}, {c.b, c.a}, {littered(c.a), littered(c.b)}} {
			if got, fault := value.Turn(pair[0], pair[1]); fault != api.OK || !exact(got, c.want) {
				t.Fatalf("Turn(%v, %v): %v, error %d", pair[0], pair[1], got, fault)
			}
		}
	}
}

// P3.4
func TestApart(t *testing.T) {
	for _, c := range []struct {
		a, b api.Value
		want int
	}{
		{point(0, 0), point(3, 4), 25}, {point(7, -7), point(7, -7), 0}, {point(-1, 0), point(1, 0), 4}, {point(0, -1), point(0, 2), 9},
		{point(far, far), point(-far, -far), 8 * far * far}, {point(far, 0), point(-far+1, 0), (2*far - 1) * (2*far - 1)},
		{point(far, far), point(-far, -far+1), 4*far*far + (2*far-1)*(2*far-1)}, {part(below0(), 0), part(0, below0()), 0},
	} {
		for _, pair := range [][2]api.Value{{c.a, c.b}, {c.b, c.a}, {littered(c.a), littered(c.b)}} {
			if got, fault := value.Apart(pair[0], pair[1]); fault != api.OK || got != c.want {
				t.Fatalf("Apart(%v, %v): %d, error %d", pair[0], pair[1], got, fault)
			}
		}
	}
}

// P3.4: the errors of Turn and Apart, in their order.
func TestPointFaults(t *testing.T) {
	wantTurn := func(a, b api.Value, want api.Errno) {
		t.Helper()
		if v, fault := value.Turn(a, b); fault != want || !exact(v, api.Value{}) {
			t.Fatalf("Turn(%v, %v): %v, error %d, wanted %d", a, b, v, fault, want)
		}
	}
	want := func(a, b api.Value, want api.Errno) {
		t.Helper()
		wantTurn(a, b, want)
		if n, fault := value.Apart(a, b); fault != want || n != 0 {
			t.Fatalf("Apart(%v, %v): %d, error %d, wanted %d", a, b, n, fault, want)
		}
	}
	for _, v := range []api.Value{whole(1), words("a"), truth(true)} {
		want(v, point(1, 1), api.ErrType)
		want(point(1, 1), v, api.ErrType)
		want(v, v, api.ErrType)
		want(v, part(0.5, 0), api.ErrArg)
	}
	for _, w := range wrongs() {
		want(w.v, point(1, 1), w.want)
		want(point(1, 1), w.v, w.want)
		want(w.v, whole(1), w.want)
	}
	want(words(long(201)), part(0.5, 0), api.ErrLimit)
	want(part(0.5, 0), words(long(201)), api.ErrArg)
	for _, pair := range [][2]api.Value{
		{point(far, 0), point(2, 0)}, {point(-far, 0), point(2, 0)}, {point(far, 0), point(0, 2)}, {point(far, 0), point(0, -2)},
		{point(far, far), point(far, far)}, {point(far, 1), point(1, -1)}, {point(far, 1), point(1, 1)}, {point(1, far), point(-1, 1)}, {point(-far, -1), point(1, 1)},
	} {
		wantTurn(pair[0], pair[1], api.ErrLimit)
		wantTurn(pair[1], pair[0], api.ErrLimit)
	}
}

// P3.5
func TestTakenAsPut(t *testing.T) {
	for _, around := range [][]byte{nil, {0}, {0xff, 0xff}, {0x80, 1, 2, 3, 4, 5, 6, 7, 8, 9, 10}} {
		for _, v := range rights() {
			b := mustPut(t, v)
			got, next, fault := value.Take(bytes.Join([][]byte{around, b, around}, nil), len(around))
			if fault != api.OK || next != len(around)+len(b) || !exact(got, v) {
				t.Fatalf("%v within % x: %v, %d, error %d", v, around, got, next, fault)
			}
			for cut := range len(b) {
				wantTakeFault(t, append(bytes.Clone(around), b[:cut]...), len(around), api.ErrShort)
			}
		}
	}
}

// P3.5: bytes that are taken are those that are put.
func putAgain(t *testing.T, b []byte, at int) {
	t.Helper()
	v, next, fault := value.Take(b, at)
	if fault != api.OK {
		wantTakeFault(t, b, at, fault)
		return
	}
	if got := mustPut(t, v); next > len(b) || !bytes.Equal(got, b[at:next]) {
		t.Fatalf("Take of % x at %d: %v up to %d, put as % x", b, at, v, next, got)
	}
}

// P3.5
func TestNoOtherBytes(t *testing.T) {
	for first := range 6 {
		for second := range 256 {
			for third := range 256 {
				putAgain(t, []byte{byte(first), byte(second), byte(third), 0, 1}, 0)
			}
		}
	}
}

// P3.6
func TestOneOfThree(t *testing.T) {
	l := rights()
	for _, a := range l {
		for _, b := range l {
			if a.Kind != b.Kind || a.Kind == api.Point {
				continue
			}
			holds := 0
			for _, is := range []bool{mustLess(t, a, b), mustLess(t, b, a), value.Same(a, b)} {
				if is {
					holds++
				}
			}
			if holds != 1 {
				t.Fatalf("of %v and %v %d hold", a, b, holds)
			}
		}
	}
}

// P3.6
func TestKeys(t *testing.T) {
	l := rights()
	for _, a := range l {
		key := mustKey(t, a)
		for _, b := range l {
			other := mustKey(t, b)
			if bytes.Equal(key, other) != value.Same(a, b) {
				t.Fatalf("the Keys of %v and %v", a, b)
			}
			if !value.Same(a, b) && bytes.HasPrefix(other, key) {
				t.Fatalf("the Key of %v begins that of %v", a, b)
			}
			if a.Kind == b.Kind && a.Kind != api.Point && (bytes.Compare(key, other) < 0) != mustLess(t, a, b) {
				t.Fatalf("the order of the Keys of %v and %v", a, b)
			}
		}
	}
}

func mustApart(t *testing.T, a, b api.Value) int {
	t.Helper()
	n, fault := value.Apart(a, b)
	if fault != api.OK {
		t.Fatalf("Apart(%v, %v): error %d", a, b, fault)
	}
	return n
}

// P3.7
func TestPlane(t *testing.T) {
	var points []api.Value
	for _, v := range rights() {
		if v.Kind == api.Point {
			points = append(points, v)
		}
	}
	zero := point(0, 0)
	units := []api.Value{point(1, 0), point(0, 1), point(-1, 0), point(0, -1)}
	for _, a := range points {
		for _, b := range points {
			product, fault := value.Turn(a, b)
			if other, again := value.Turn(b, a); again != fault || !exact(product, other) {
				t.Fatalf("Turn of %v and %v minds their order", a, b)
			}
			if fault == api.OK && mustApart(t, product, zero) != mustApart(t, a, zero)*mustApart(t, b, zero) {
				t.Fatalf("the length of the product of %v and %v", a, b)
			}
			apart := mustApart(t, a, b)
			if apart != mustApart(t, b, a) || (apart == 0) != value.Same(a, b) {
				t.Fatalf("Apart(%v, %v): %d", a, b, apart)
			}
			for _, u := range units {
				x, first := value.Turn(a, u)
				y, second := value.Turn(b, u)
				if first != api.OK || second != api.OK || mustApart(t, x, y) != apart {
					t.Fatalf("%v and %v, both turned by %v", a, b, u)
				}
			}
		}
	}
}

// P3: what is handed in stays, spare room too.
func TestHandedInStays(t *testing.T) {
	for _, v := range rights() {
		room := append(mustPut(t, v), 7, 7, 7, 7)
		was := bytes.Clone(room)
		value.Take(room[:len(room)-4], 0)
		if !bytes.Equal(room, was) {
			t.Fatalf("Take changed % x", was)
		}
	}
}

// P3: what is answered is new memory.
func TestAnsweredIsNew(t *testing.T) {
	for _, v := range rights() {
		for _, call := range []func(api.Value) ([]byte, api.Errno){value.Put, value.Key} {
			first, _ := call(v)
			was := bytes.Clone(first)
			clear(first[:cap(first)])
			if again, _ := call(v); !bytes.Equal(again, was) {
				t.Fatalf("bytes of %v lie in those that were answered", v)
			}
		}
		b := mustPut(t, v)
		got, _, _ := value.Take(b, 0)
		clear(b)
		if !exact(got, v) {
			t.Fatalf("%v lies in the bytes that it was taken from", v)
		}
	}
}

// P1, P3.5: any bytes, any place.
func FuzzAnyBytes(f *testing.F) {
	for _, v := range rights()[:40] {
		b, _ := value.Put(v)
		f.Add(b, 0)
	}
	f.Add([]byte{4, 0x82, 0x80, 0x80, 1, 0}, 0)
	f.Add([]byte{1, 0}, -1)
	f.Fuzz(func(t *testing.T, b []byte, at int) { putAgain(t, b, at) })
}

// P1: any value.
func FuzzAnyValue(f *testing.F) {
	f.Add(4, int64(0), "", true, 1.0, -1.0)
	f.Add(4, int64(0), "", true, math.NaN(), math.Inf(1))
	f.Add(2, int64(0), "a\x00", true, 0.5, -1.0)
	f.Fuzz(func(t *testing.T, kind int, n int64, s string, is bool, x, y float64) {
		v := api.Value{Kind: api.Kind(kind), Whole: n, Words: s, Truth: is, Point: complex(x, y)}
		fault := value.Check(v)
		for _, other := range append(rights()[:20], v, point(3, 4)) {
			value.Less(v, other)
			value.Turn(v, other)
			value.Apart(v, other)
			value.Same(v, other)
		}
		key, keyFault := value.Key(v)
		b, putFault := value.Put(v)
		if keyFault != fault || putFault != fault || (len(key) > 0) != (fault == api.OK) {
			t.Fatalf("%v: errors %d, %d, %d", v, fault, keyFault, putFault)
		}
		if fault != api.OK {
			return
		}
		if got, next, fault := value.Take(b, 0); fault != api.OK || next != len(b) || !value.Same(got, v) {
			t.Fatalf("%v was taken as %v", v, got)
		}
	})
}
