package octet_test

import (
	"bytes"
	"math"
	"strings"
	"testing"

	"grapevine/api"
	"grapevine/octet"
)

// uints are numbers at each edge of a bit.
func uints() []uint64 {
	l := []uint64{0, 300, math.MaxUint64}
	for k := range 64 {
		n := uint64(1) << k
		l = append(l, n-1, n, n+1)
	}
	return l
}

// ints are numbers at each edge of a bit, below 0 and above.
func ints() []int64 {
	l := []int64{0, 1, -1, 2, -2, math.MaxInt64, math.MinInt64, math.MinInt64 + 1}
	for k := range 63 {
		n := int64(1) << k
		l = append(l, n-1, n, n+1, -n-1, -n, -n+1)
	}
	return l
}

// arounds are bytes that may stand ahead of what is taken, and behind it.
func arounds() [][]byte {
	return [][]byte{nil, {0}, {0xff, 0xff}, {0x80, 1, 2, 3, 4, 5, 6, 7, 8, 9, 10}}
}

func within(around, b []byte) []byte {
	return bytes.Join([][]byte{around, b, around}, nil)
}

// taker is one of the five calls that take, its first answer as whether it is the zero value.
type taker struct {
	name string
	take func(b []byte, at int) (bool, int, api.Errno)
}

func takers() []taker {
	return []taker{
		{"TakeUint", func(b []byte, at int) (bool, int, api.Errno) {
			n, next, fault := octet.TakeUint(b, at)
			return n == 0, next, fault
		}},
		{"TakeInt", func(b []byte, at int) (bool, int, api.Errno) {
			n, next, fault := octet.TakeInt(b, at)
			return n == 0, next, fault
		}},
		{"TakeText", func(b []byte, at int) (bool, int, api.Errno) {
			s, next, fault := octet.TakeText(b, at)
			return s == "", next, fault
		}},
		{"TakeKey", func(b []byte, at int) (bool, int, api.Errno) {
			n, next, fault := octet.TakeKey(b, at)
			return n == 0, next, fault
		}},
		{"TakeJoin", func(b []byte, at int) (bool, int, api.Errno) {
			l, next, fault := octet.TakeJoin(b, at)
			return len(l) == 0, next, fault
		}},
	}
}

func (k taker) wantFault(t *testing.T, b []byte, at int, want api.Errno) {
	t.Helper()
	zero, next, fault := k.take(b, at)
	if fault != want {
		t.Fatalf("%s of % x at %d: error %d, wanted %d", k.name, b, at, fault, want)
	}
	if !zero || next != 0 {
		t.Fatalf("%s of % x at %d: error %d beside an answer, next %d", k.name, b, at, fault, next)
	}
}

func mustText(t *testing.T, s string) []byte {
	t.Helper()
	b, fault := octet.Text(s)
	if fault != api.OK {
		t.Fatalf("Text of %d bytes: error %d", len(s), fault)
	}
	return b
}

func mustJoin(t *testing.T, parts ...[]byte) []byte {
	t.Helper()
	b, fault := octet.Join(parts...)
	if fault != api.OK {
		t.Fatalf("Join of %d parts: error %d", len(parts), fault)
	}
	return b
}

// P2.1 to P2.5: places that may not be, and the place behind the end.
func TestPlaces(t *testing.T) {
	for _, k := range takers() {
		for _, b := range [][]byte{nil, {}, {0}, make([]byte, 20), bytes.Repeat([]byte{0xff}, 20)} {
			for _, at := range []int{-1, math.MinInt, len(b) + 1, math.MaxInt, math.MaxInt - 7} {
				k.wantFault(t, b, at, api.ErrArg)
			}
			k.wantFault(t, b, len(b), api.ErrShort)
		}
	}
}

// P2.1
func TestUintBytes(t *testing.T) {
	for _, c := range []struct {
		n    uint64
		want string
	}{
		{0, "\x00"}, {1, "\x01"}, {127, "\x7f"}, {128, "\x80\x01"}, {300, "\xac\x02"},
		{1<<14 - 1, "\xff\x7f"}, {1 << 14, "\x80\x80\x01"}, {1 << 35, "\x80\x80\x80\x80\x80\x01"},
		{1<<63 - 1, "\xff\xff\xff\xff\xff\xff\xff\xff\x7f"},
		{1 << 63, "\x80\x80\x80\x80\x80\x80\x80\x80\x80\x01"},
		{math.MaxUint64, "\xff\xff\xff\xff\xff\xff\xff\xff\xff\x01"},
	} {
		if got := octet.Uint(c.n); string(got) != c.want {
			t.Fatalf("Uint(%d): % x", c.n, got)
		}
	}
}

// P2.1 to P2.3, P2.5: the faults of a number, in their order, of all calls that begin with one.
func TestTakeUintFaults(t *testing.T) {
	nine := strings.Repeat("\x80", 9)
	for _, c := range []struct {
		b    string
		want api.Errno
	}{
		{"\x80", api.ErrShort}, {"\xff\xff", api.ErrShort}, {nine, api.ErrShort},
		{"\x80\x00", api.ErrForm}, {"\xff\x00", api.ErrForm}, {"\x81\x80\x00", api.ErrForm}, {nine + "\x00", api.ErrForm},
		{nine + "\x02", api.ErrLimit}, {nine + "\x7f", api.ErrLimit}, {nine + "\x80", api.ErrLimit}, {nine + "\x81\x00", api.ErrLimit}, {nine + "\xff\xff", api.ErrLimit},
	} {
		for _, k := range takers() {
			if k.name != "TakeKey" {
				k.wantFault(t, []byte(c.b), 0, c.want)
				k.wantFault(t, []byte("\x01\x80"+c.b), 2, c.want)
			}
		}
	}
}

// P2.1, P2.6
func TestUintTaken(t *testing.T) {
	for _, n := range uints() {
		for _, around := range arounds() {
			b := octet.Uint(n)
			got, next, fault := octet.TakeUint(within(around, b), len(around))
			if fault != api.OK || got != n || next != len(around)+len(b) {
				t.Fatalf("%d behind %d bytes: %d, next %d, error %d", n, len(around), got, next, fault)
			}
		}
	}
}

// P2.2
func TestIntBytes(t *testing.T) {
	for _, c := range []struct {
		n      int64
		folded uint64
	}{
		{0, 0}, {-1, 1}, {1, 2}, {-2, 3}, {2, 4}, {-64, 127}, {64, 128}, {-65, 129},
		{math.MaxInt64, math.MaxUint64 - 1}, {math.MinInt64, math.MaxUint64}, {math.MinInt64 + 1, math.MaxUint64 - 2},
	} {
		if got := octet.Int(c.n); !bytes.Equal(got, octet.Uint(c.folded)) {
			t.Fatalf("Int(%d): % x", c.n, got)
		}
	}
}

// P2.2, P2.6
func TestIntTaken(t *testing.T) {
	for _, n := range ints() {
		for _, around := range arounds() {
			b := octet.Int(n)
			got, next, fault := octet.TakeInt(within(around, b), len(around))
			if fault != api.OK || got != n || next != len(around)+len(b) {
				t.Fatalf("%d behind %d bytes: %d, next %d, error %d", n, len(around), got, next, fault)
			}
		}
	}
}

// P2.3
func TestTextBytes(t *testing.T) {
	if got := mustText(t, ""); string(got) != "\x00" {
		t.Fatalf("no bytes: % x", got)
	}
	if got := mustText(t, "a\x00\xff"); string(got) != "\x03a\x00\xff" {
		t.Fatalf("three bytes: % x", got)
	}
	longest := strings.Repeat("x", api.MaxText)
	if got := mustText(t, longest); string(got) != "\xc8\x01"+longest {
		t.Fatalf("the longest: % x", got)
	}
	if got, fault := octet.Text(longest + "x"); fault != api.ErrLimit || len(got) != 0 {
		t.Fatalf("too long: %d bytes, error %d", len(got), fault)
	}
}

// P2.3: the limit goes ahead of what stands behind the length.
func TestTakeTextFaults(t *testing.T) {
	k := takers()[2]
	k.wantFault(t, octet.Uint(201), 0, api.ErrLimit)
	k.wantFault(t, append(octet.Uint(201), make([]byte, 201)...), 0, api.ErrLimit)
	k.wantFault(t, octet.Uint(math.MaxUint64), 0, api.ErrLimit)
	k.wantFault(t, octet.Uint(1<<63), 0, api.ErrLimit)
	k.wantFault(t, octet.Uint(1<<32), 0, api.ErrLimit)
	k.wantFault(t, octet.Uint(200), 0, api.ErrShort)
	k.wantFault(t, append(octet.Uint(200), make([]byte, 199)...), 0, api.ErrShort)
}

// P2.3, P2.6
func TestTextTaken(t *testing.T) {
	for _, s := range []string{"", "a", "\x00", "\xff\x80", "grapevine", strings.Repeat("y", 127), strings.Repeat("y", 128), strings.Repeat("z", 200)} {
		for _, around := range arounds() {
			b := mustText(t, s)
			got, next, fault := octet.TakeText(within(around, b), len(around))
			if fault != api.OK || got != s || next != len(around)+len(b) {
				t.Fatalf("%q behind %d bytes: %q, next %d, error %d", s, len(around), got, next, fault)
			}
		}
	}
}

// P2.4
func TestKeyBytes(t *testing.T) {
	for _, c := range []struct {
		n    int64
		want string
	}{
		{0, "\x80\x00\x00\x00\x00\x00\x00\x00"},
		{1, "\x80\x00\x00\x00\x00\x00\x00\x01"},
		{-1, "\x7f\xff\xff\xff\xff\xff\xff\xff"},
		{math.MinInt64, "\x00\x00\x00\x00\x00\x00\x00\x00"},
		{math.MaxInt64, "\xff\xff\xff\xff\xff\xff\xff\xff"},
		{0x0102030405060708, "\x81\x02\x03\x04\x05\x06\x07\x08"},
	} {
		if got := octet.Key(c.n); string(got) != c.want {
			t.Fatalf("Key(%d): % x", c.n, got)
		}
	}
}

// P2.4, P2.6
func TestKeyTaken(t *testing.T) {
	for _, n := range ints() {
		for _, around := range arounds() {
			got, next, fault := octet.TakeKey(within(around, octet.Key(n)), len(around))
			if fault != api.OK || got != n || next != len(around)+8 {
				t.Fatalf("%d behind %d bytes: %d, next %d, error %d", n, len(around), got, next, fault)
			}
		}
	}
}

// P2.5
func TestJoinBytes(t *testing.T) {
	if got := mustJoin(t); string(got) != "\x00" {
		t.Fatalf("no parts: % x", got)
	}
	if got := mustJoin(t, []byte("a"), nil); string(got) != "\x02\x01a\x00" {
		t.Fatalf("the example: % x", got)
	}
	if got := mustJoin(t, nil, []byte{}, make([]byte, 128)); string(got) != "\x03\x00\x00\x80\x01"+strings.Repeat("\x00", 128) {
		t.Fatalf("three parts: % x", got)
	}
	if got := mustJoin(t, make([][]byte, api.MaxParts)...); string(got) != "\x40"+strings.Repeat("\x00", 64) {
		t.Fatalf("as many as may be: % x", got)
	}
	if got := mustJoin(t, make([]byte, api.MaxBody)); string(got) != "\x01\x80\x20"+strings.Repeat("\x00", 4096) {
		t.Fatalf("as long as may be: %d bytes", len(got))
	}
	for _, parts := range [][][]byte{
		make([][]byte, api.MaxParts+1),
		{make([]byte, api.MaxBody+1)},
		{nil, []byte("a"), make([]byte, api.MaxBody+1)},
	} {
		if got, fault := octet.Join(parts...); fault != api.ErrLimit || len(got) != 0 {
			t.Fatalf("%d parts: %d bytes, error %d", len(parts), len(got), fault)
		}
	}
}

// P2.5: part by part, the first fault is told.
func TestTakeJoinFaults(t *testing.T) {
	k := takers()[4]
	for _, c := range []struct {
		b    string
		want api.Errno
	}{
		{"\x41", api.ErrLimit},
		{"\x41" + strings.Repeat("\x00", 65), api.ErrLimit},
		{"\xff\xff\xff\xff\xff\xff\xff\xff\xff\x01", api.ErrLimit},
		{"\x40" + strings.Repeat("\x00", 63), api.ErrShort},
		{"\x01", api.ErrShort},
		{"\x01\x80", api.ErrShort},
		{"\x01\x80\x00", api.ErrForm},
		{"\x01\x81\x20", api.ErrLimit},
		{"\x01\x81\x20" + strings.Repeat("\x00", 4097), api.ErrLimit},
		{"\x01\xff\xff\xff\xff\xff\xff\xff\xff\xff\x01", api.ErrLimit},
		{"\x01\xff\xff\xff\xff\xff\xff\xff\xff\xff\x02", api.ErrLimit},
		{"\x01\x80\x20" + strings.Repeat("\x00", 4095), api.ErrShort},
		{"\x01\x02a", api.ErrShort},
		{"\x02\x01a", api.ErrShort},
		{"\x02\x01a\x80\x00", api.ErrForm},
		{"\x03\x01a\x81\x20\x80\x00", api.ErrLimit},
		{"\x03\x01a\x80\x00\x81\x20", api.ErrForm},
	} {
		k.wantFault(t, []byte(c.b), 0, c.want)
		k.wantFault(t, []byte("\x00\x80"+c.b), 2, c.want)
	}
}

// P2.5, P2.6
func TestJoinTaken(t *testing.T) {
	many := make([][]byte, api.MaxParts)
	for i := range many {
		many[i] = bytes.Repeat([]byte{byte(i)}, i*7)
	}
	for _, parts := range [][][]byte{nil, {nil}, {nil, nil}, {[]byte("a"), nil, []byte("\x80\x00")}, {make([]byte, api.MaxBody)}, many} {
		for _, around := range arounds() {
			b := mustJoin(t, parts...)
			got, next, fault := octet.TakeJoin(within(around, b), len(around))
			if fault != api.OK || len(got) != len(parts) || next != len(around)+len(b) {
				t.Fatalf("%d parts behind %d bytes: %d, next %d, error %d", len(parts), len(around), len(got), next, fault)
			}
			for i := range parts {
				if !bytes.Equal(got[i], parts[i]) {
					t.Fatalf("part %d of %d: % x", i, len(parts), got[i])
				}
			}
		}
	}
}

// P2.6: all rows of up to three bytes of an alphabet of edges: what is taken is put as those very bytes.
func TestNoOtherBytes(t *testing.T) {
	edges := []byte{0, 1, 2, 0x40, 0x41, 0x7f, 0x80, 0x81, 0xc8, 0xc9, 0xff}
	var rows [][]byte
	for _, x := range edges {
		rows = append(rows, []byte{x})
		for _, y := range edges {
			rows = append(rows, []byte{x, y})
			for _, z := range edges {
				rows = append(rows, []byte{x, y, z})
			}
		}
	}
	for _, b := range rows {
		putAgain(t, b, 0)
	}
}

// putAgain puts whatever is taken from a place, and holds it against the bytes there.
func putAgain(t *testing.T, b []byte, at int) {
	t.Helper()
	if n, next, fault := octet.TakeUint(b, at); fault == api.OK && !bytes.Equal(octet.Uint(n), b[at:next]) {
		t.Fatalf("% x is taken for Uint(%d)", b[at:next], n)
	}
	if n, next, fault := octet.TakeInt(b, at); fault == api.OK && !bytes.Equal(octet.Int(n), b[at:next]) {
		t.Fatalf("% x is taken for Int(%d)", b[at:next], n)
	}
	if s, next, fault := octet.TakeText(b, at); fault == api.OK && !bytes.Equal(mustText(t, s), b[at:next]) {
		t.Fatalf("% x is taken for Text(%q)", b[at:next], s)
	}
	if n, next, fault := octet.TakeKey(b, at); fault == api.OK && !bytes.Equal(octet.Key(n), b[at:next]) {
		t.Fatalf("% x is taken for Key(%d)", b[at:next], n)
	}
	if l, next, fault := octet.TakeJoin(b, at); fault == api.OK && !bytes.Equal(mustJoin(t, l...), b[at:next]) {
		t.Fatalf("% x is taken for Join of %d parts", b[at:next], len(l))
	}
}

// P2.7
func TestOrder(t *testing.T) {
	for _, m := range ints() {
		for _, n := range ints() {
			if got := bytes.Compare(octet.Key(m), octet.Key(n)) < 0; got != (m < n) {
				t.Fatalf("the Keys of %d and %d do not stand in their order", m, n)
			}
		}
	}
	for _, m := range uints() {
		for _, n := range uints() {
			if m < n && len(octet.Uint(m)) > len(octet.Uint(n)) {
				t.Fatalf("%d has more bytes than %d", m, n)
			}
		}
	}
}

// P2.8
func TestCutShort(t *testing.T) {
	ks := takers()
	for i, rows := range [][][]byte{
		{octet.Uint(0), octet.Uint(300), octet.Uint(1 << 40), octet.Uint(math.MaxUint64)},
		{octet.Int(0), octet.Int(-300), octet.Int(math.MinInt64), octet.Int(math.MaxInt64)},
		{mustText(t, ""), mustText(t, "abc"), mustText(t, strings.Repeat("x", 200))},
		{octet.Key(0), octet.Key(-1), octet.Key(math.MinInt64)},
		{mustJoin(t), mustJoin(t, nil), mustJoin(t, []byte("abc"), nil, make([]byte, 200), []byte("d"))},
	} {
		for _, b := range rows {
			for cut := range b {
				ks[i].wantFault(t, b[:cut], 0, api.ErrShort)
				ks[i].wantFault(t, append([]byte{0xff, 0}, b[:cut]...), 2, api.ErrShort)
			}
		}
	}
}

// P3: what is handed in stays as it is, spare room too.
func TestHandedInStays(t *testing.T) {
	whole := append(mustJoin(t, []byte("a"), nil, []byte("bcd")), make([]byte, 60)...)
	before := bytes.Clone(whole)
	for at := -1; at < 12; at++ {
		for _, k := range takers() {
			k.take(whole[:10], at)
		}
	}
	parts := [][]byte{whole[:3], whole[3:10], nil}
	octet.Join(parts[:2]...)
	if !bytes.Equal(whole, before) {
		t.Fatal("bytes that were handed in are changed")
	}
	if len(parts[0]) != 3 || len(parts[1]) != 7 || parts[2] != nil {
		t.Fatal("a list of parts that was handed in is changed")
	}
}

// P3: what is answered is new memory.
func TestAnsweredIsNew(t *testing.T) {
	part := []byte("abc")
	joined := mustJoin(t, part)
	clear(part)
	if string(joined) != "\x01\x03abc" {
		t.Fatal("Join's answer lies in what was handed in")
	}
	row := mustJoin(t, []byte("abc"), []byte("def"))
	l, _, _ := octet.TakeJoin(row, 0)
	again, _, _ := octet.TakeJoin(row, 0)
	s, _, _ := octet.TakeText(row, 1)
	clear(row)
	if string(l[0]) != "abc" || string(l[1]) != "def" || s != "abc" {
		t.Fatal("an answer lies in what was handed in")
	}
	l[0] = append(l[0], "spilt over the end"...)
	clear(l[0])
	if string(l[1]) != "def" || string(again[0]) != "abc" {
		t.Fatal("two parts lie in one another")
	}
	one := octet.Uint(0)
	one[0] = 9
	if string(octet.Uint(0)) != "\x00" {
		t.Fatal("Uint's answer is kept")
	}
}

// P1: no bytes and no place make it panic.
func FuzzAnyBytes(f *testing.F) {
	f.Add([]byte{}, 0)
	f.Add([]byte("\x02\x01a\x00"), 0)
	f.Add([]byte("\xff\xff\xff\xff\xff\xff\xff\xff\xff\x01"), 0)
	f.Fuzz(func(t *testing.T, b []byte, at int) { putAgain(t, b, at) })
}
