package pred_test

import (
	"bytes"
	"math"
	"slices"
	"testing"

	"grapevine/api"
	"grapevine/octet"
	"grapevine/pred"
)

func mustPut(t *testing.T, l []api.Term) []byte {
	t.Helper()
	b, fault := pred.Put(l)
	if fault != api.OK {
		t.Fatalf("Put(%v): error %d", l, fault)
	}
	return b
}

// P5.4
func TestPutBytes(t *testing.T) {
	for _, c := range []struct {
		l    []api.Term
		want string
	}{
		{list(op(api.Yes)), "\x01\x01"}, {list(op(api.No)), "\x01\x02"}, {list(op(api.Yes), op(api.Not)), "\x02\x01\x04"}, {list(op(api.Yes), op(api.No), op(api.And)), "\x03\x01\x02\x05"}, {list(op(api.No), op(api.Yes), op(api.Or)), "\x03\x02\x01\x06"},
		{list(has("a")), "\x01\x03\x01a\x01"}, {list(is("b-2")), "\x01\x03\x03b-2\x02"}, {list(atom("a", api.Equal, whole(-1))), "\x01\x03\x01a\x03\x01\x01"}, {list(atom("a", api.Other, truth(true))), "\x01\x03\x01a\x04\x03\x01"}, {list(atom("a", api.Less, words("hi"))), "\x01\x03\x01a\x05\x02\x02hi"},
		{list(atom("a", api.Most, whole(1))), "\x01\x03\x01a\x06\x01\x02"}, {list(atom("a", api.More, whole(1))), "\x01\x03\x01a\x07\x01\x02"}, {list(atom("a", api.Least, whole(1))), "\x01\x03\x01a\x08\x01\x02"}, {list(atom("a", api.Begins, words(""))), "\x01\x03\x01a\x09\x02\x00"}, {list(near("a", point(2, -1), 300)), "\x01\x03\x01a\x0a\x04\x04\x01\xac\x02"},
		// What counts for nothing is not put.
		{list(atom("a", api.Has, whole(5))), "\x01\x03\x01a\x01"}, {list(api.Term{Op: api.Atom, Name: "a", Cmp: api.Equal, Value: api.Value{Kind: api.Truth, Whole: 9, Words: long(300)}, Radius: -7}), "\x01\x03\x01a\x03\x03\x00"}, {list(api.Term{Op: api.Yes, Name: "x", Cmp: 3, Radius: 7}), "\x01\x01"},
	} {
		if b := mustPut(t, c.l); string(b) != c.want {
			t.Fatalf("Put(%v): % x, wanted % x", c.l, b, c.want)
		}
	}
	for _, w := range wrongs() {
		if b, fault := pred.Put(w.l); len(b) != 0 || fault != w.want {
			t.Fatalf("Put(%v): % x, error %d, wanted %d", w.l, b, fault, w.want)
		}
	}
}

// P5.5: what is put is taken as it was, whatever stands around; what is cut short is ErrShort.
func TestTakenAsPut(t *testing.T) {
	all := rights()
	d := dice(11)
	for range 500 {
		if l := d.terms(4); pred.Check(l) == api.OK {
			all = append(all, l)
		}
	}
	for _, l := range all {
		b := mustPut(t, l)
		for _, around := range [][2]string{{"", ""}, {"\x01", "\xff"}, {"abc", "\x00\x00"}} {
			in := slices.Concat([]byte(around[0]), b, []byte(around[1]))
			got, next, fault := pred.Take(in, len(around[0]))
			if fault != api.OK || next != len(around[0])+len(b) || !slices.Equal(got, l) {
				t.Fatalf("Take of Put(%v): %v, place %d, error %d", l, got, next, fault)
			}
		}
		for cut := range b {
			wantTakeFault(t, b[:cut], 0, api.ErrShort)
		}
	}
}

func wantTakeFault(t *testing.T, b []byte, at int, want api.Errno) {
	t.Helper()
	if l, next, fault := pred.Take(b, at); fault != want || len(l) != 0 || next != 0 {
		t.Fatalf("Take of % x at %d: %v, place %d, error %d, wanted %d", b, at, l, next, fault, want)
	}
}

// P5.4: the errors, from the left.
func TestTakeFaults(t *testing.T) {
	for _, at := range []int{-1, 3, math.MinInt, math.MaxInt} {
		wantTakeFault(t, []byte("\x01\x01"), at, api.ErrArg)
	}
	long200 := append(octet.Uint(200), long(200)...)
	long201 := append(octet.Uint(201), long(201)...)
	for _, c := range []struct {
		b    string
		want api.Errno
	}{
		{"", api.ErrShort}, {"\x80", api.ErrShort}, {"\x80\x00", api.ErrForm}, {"\xff\xff\xff\xff\xff\xff\xff\xff\xff\x02", api.ErrLimit}, {"\x31", api.ErrLimit}, {"\x31\x00", api.ErrLimit}, {"\xff\xff\xff\xff\xff\xff\xff\xff\xff\x01", api.ErrLimit},
		{"\x01", api.ErrShort}, {"\x01\x00", api.ErrArg}, {"\x01\x07", api.ErrArg}, {"\x01\xff", api.ErrArg}, {"\x02\x01", api.ErrShort}, {"\x02\x00", api.ErrArg},
		{"\x01\x03", api.ErrShort}, {"\x01\x03\x02a", api.ErrShort}, {"\x01\x03\x81\x00", api.ErrForm}, {"\x01\x03" + string(long201), api.ErrLimit}, {"\x01\x03" + string(long200), api.ErrName}, {"\x01\x03\x00\x01", api.ErrName}, {"\x01\x03\x01A\x01", api.ErrName}, {"\x01\x03\x11" + longName + "q\x01", api.ErrName}, {"\x01\x03\x01A", api.ErrName},
		{"\x01\x03\x01a", api.ErrShort}, {"\x01\x03\x01a\x00", api.ErrArg}, {"\x01\x03\x01a\x0b", api.ErrArg}, {"\x01\x03\x01a\xff", api.ErrArg}, {"\x01\x03\x01a\x03", api.ErrShort}, {"\x01\x03\x01a\x03\x00", api.ErrType}, {"\x01\x03\x01a\x03\x05", api.ErrType}, {"\x01\x03\x01a\x03\x01", api.ErrShort}, {"\x01\x03\x01a\x03\x03\x02", api.ErrForm}, {"\x01\x03\x01a\x03\x01\x80\x00", api.ErrForm}, {"\x01\x03\x01a\x03\x04\x82\x80\x80\x01\x00", api.ErrLimit},
		{"\x01\x03\x01a\x05\x03\x01", api.ErrType}, {"\x01\x03\x01a\x06\x04\x00\x00", api.ErrType}, {"\x01\x03\x01a\x07\x03\x00", api.ErrType}, {"\x01\x03\x01a\x08\x04\x00\x00", api.ErrType}, {"\x01\x03\x01a\x09\x01\x00", api.ErrType}, {"\x01\x03\x01a\x09\x04\x00\x00", api.ErrType}, {"\x01\x03\x01a\x0a\x01\x00\x00", api.ErrType}, {"\x01\x03\x01a\x0a\x02\x00\x00", api.ErrType}, {"\x01\x03\x01a\x0a\x01\x00", api.ErrType},
		{"\x01\x03\x01a\x0a\x04\x00\x00", api.ErrShort}, {"\x01\x03\x01a\x0a\x04\x00\x00\x80\x00", api.ErrForm}, {"\x01\x03\x01a\x0a\x04\x00\x00\x81\x80\x40", api.ErrArg}, {"\x01\x03\x01a\x0a\x04\x00\x00\xff\xff\xff\xff\xff\xff\xff\xff\xff\x01", api.ErrArg}, {"\x01\x03\x01a\x0a\x04\x00\x00\xff\xff\xff\xff\xff\xff\xff\xff\xff\x02", api.ErrLimit},
		{"\x02\x03\x01a\x0a\x04\x00\x00\x81\x80\x40", api.ErrArg}, {"\x02\x03\x01a\x0a\x04\x00\x00\x81\x80\x40\x03\x00", api.ErrArg}, {"\x02\x03\x01a\x09\x01\x00\x03\x00", api.ErrType},
		// Behind all Check's error; but what is wrong with bytes further on counts ahead of it.
		{"\x00", api.ErrForm}, {"\x01\x04", api.ErrForm}, {"\x02\x01\x05", api.ErrForm}, {"\x02\x01\x06", api.ErrForm}, {"\x02\x01\x01", api.ErrForm}, {"\x11" + string(bytes.Repeat([]byte{1}, 17)), api.ErrLimit}, {"\x02\x04\x00", api.ErrArg}, {"\x02\x04", api.ErrShort}, {"\x02\x04\x03\x01A", api.ErrName}, {"\x12" + string(bytes.Repeat([]byte{1}, 17)) + "\x09", api.ErrArg},
	} {
		wantTakeFault(t, []byte(c.b), 0, c.want)
		wantTakeFault(t, []byte("zz"+c.b), 2, c.want)
	}
	if l, next, fault := pred.Take([]byte("\x01\x03\x01a\x0a\x04\x00\x00\x80\x80\x40"), 0); fault != api.OK || next != 11 || l[0] != near("a", point(0, 0), 1<<20) {
		t.Fatalf("the greatest radius: %v, place %d, error %d", l, next, fault)
	}
	if l, next, fault := pred.Take(append([]byte("\x30\x01"), bytes.Repeat([]byte{4}, 47)...), 0); fault != api.OK || next != 49 || len(l) != 48 {
		t.Fatalf("48 terms: %v, place %d, error %d", l, next, fault)
	}
}

// P5.5: no other bytes are taken for it.
func TestNoOtherBytes(t *testing.T) {
	for _, l := range rights() {
		b := mustPut(t, l)
		if len(b) > 60 {
			continue
		}
		for i := range b {
			for c := range 256 {
				other := slices.Clone(b)
				other[i] = byte(c)
				got, next, fault := pred.Take(other, 0)
				if fault == api.OK && !bytes.Equal(mustPut(t, got), other[:next]) {
					t.Fatalf("% x is taken for %v, which is put as % x", other[:next], got, mustPut(t, got))
				}
			}
		}
	}
}

// P5.5: no two of different terms have the same bytes, or the same text.
func TestOneWay(t *testing.T) {
	seen := map[string]int{}
	texts := map[string]int{}
	for i, l := range rights() {
		b := string(mustPut(t, l))
		if j, ok := seen[b]; ok {
			t.Fatalf("%v and %v are put as % x", rights()[j], l, b)
		}
		seen[b] = i
		text, fault := pred.Print(l)
		if fault != api.OK {
			continue
		}
		if j, ok := texts[text]; ok {
			t.Fatalf("%v and %v are printed as %q", rights()[j], l, text)
		}
		texts[text] = i
	}
}

// values are right values, of all kinds.
func values() []api.Value {
	return []api.Value{
		whole(math.MinInt64), whole(-1), whole(0), whole(1), whole(math.MaxInt64), words(""), words("\x00"), words("a"), words("a\x00"), words("ab"), words("\xff"), words(long(200)),
		truth(false), truth(true), point(0, 0), point(1, 0), point(0, -1), point(1<<20, -1<<20),
	}
}

// P5.6
func TestLaws(t *testing.T) {
	for _, v := range values() {
		for _, w := range values() {
			e := of(attr("a", v))
			tell := func(cmp api.Cmp) bool { return mustEval(t, list(atom("a", cmp, w)), e) }
			one := v.Kind == w.Kind
			if one && tell(api.Equal) == tell(api.Other) || !one && (tell(api.Equal) || tell(api.Other)) {
				t.Fatalf("Equal and Other of %v, %v", v, w)
			}
			if w.Kind != api.Whole && w.Kind != api.Words {
				continue
			}
			if one && (tell(api.Less) == tell(api.Least) || tell(api.Most) == tell(api.More)) || !one && (tell(api.Less) || tell(api.Least) || tell(api.Most) || tell(api.More)) {
				t.Fatalf("the order of %v, %v", v, w)
			}
			if tell(api.Most) != (tell(api.Less) || tell(api.Equal)) || tell(api.Least) != (tell(api.More) || tell(api.Equal)) {
				t.Fatalf("Most and Least of %v, %v", v, w)
			}
		}
	}
	d := dice(13)
	for range 2000 {
		a, b := d.terms(2), d.terms(2)
		e := of(attr("a", values()[d.roll(len(values()))]), attr("b", values()[d.roll(len(values()))]))
		notAnd := slices.Concat(a, b, list(op(api.And), op(api.Not)))
		orNots := slices.Concat(a, list(op(api.Not)), b, list(op(api.Not), op(api.Or)))
		if mustEval(t, notAnd, e) != mustEval(t, orNots, e) {
			t.Fatalf("Not of And of %v, %v", a, b)
		}
	}
}

// P3: what is handed in stays as it is, spare room too.
func TestHandedInStays(t *testing.T) {
	for _, l := range rights() {
		roomy := append(slices.Clone(l), is("spare"), is("room"))
		kept := slices.Clone(roomy)
		in := roomy[:len(l)]
		fields := append(schema(), api.Field{Name: "spare"})
		e := of(attr("a", whole(1)), attr("b", words("x")), attr("spare", whole(1)))
		keptAttrs := slices.Clone(e.Attrs)
		pred.Check(in)
		pred.Fits(fields[:4], in)
		pred.Eval(in, api.Event{Attrs: e.Attrs[:2]})
		pred.Print(in)
		b := mustPut(t, in)
		raw := append(slices.Clone(b), "spare"...)
		pred.Take(raw[:len(b)], 0)
		if !slices.Equal(roomy, kept) || !slices.Equal(e.Attrs, keptAttrs) || fields[4].Name != "spare" || string(raw) != string(b)+"spare" {
			t.Fatalf("%v was changed", l)
		}
	}
}

// P3: what is answered is new memory.
func TestAnsweredIsNew(t *testing.T) {
	b := mustPut(t, list(atom("a", api.Equal, words("text"))))
	l, _, _ := pred.Take(b, 0)
	again, _, _ := pred.Take(b, 0)
	clear(b)
	if l[0].Name != "a" || l[0].Value.Words != "text" {
		t.Fatal("terms lie in the bytes")
	}
	clear(l)
	if again[0].Name != "a" {
		t.Fatal("two answers share terms")
	}
	one, two := mustParse(t, "a&b"), mustParse(t, "a&b")
	clear(one)
	if two[0].Name != "a" {
		t.Fatal("two parsed lists share terms")
	}
	first, second := mustPut(t, two), mustPut(t, two)
	clear(first)
	if second[0] != 3 {
		t.Fatal("two answers share bytes")
	}
}
