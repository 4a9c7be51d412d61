package parcel_test

import (
	"bytes"
	"math"
	"strings"
	"testing"

	"grapevine/api"
	"grapevine/octet"
	"grapevine/parcel"
)

// number is a number as bytes.
func number(n uint64) string { return string(octet.Uint(n)) }

// P13.3: the first byte.
func TestTakeKind(t *testing.T) {
	noTake(t, nil, api.ErrShort)
	noTake(t, []byte{}, api.ErrShort)
	for k := range 256 {
		switch {
		case k == 0 || k > int(api.Leave):
			noTake(t, []byte{byte(k)}, api.ErrType)
			noTake(t, []byte{byte(k), 0x80, 0}, api.ErrType)
		default:
			noTake(t, []byte{byte(k)}, api.ErrShort)
			noTake(t, []byte{byte(k), 0x80, 0}, api.ErrForm)
		}
	}
}

// shapes are how many numbers the parcels of a kind begin with.
var shapes = map[api.Mail]int{api.Tell: 3, api.Want: 3, api.Ack: 4, api.Join: 3, api.Grant: 4, api.Leave: 3}

// P13.3: of each number octet's error, then the limit, from the left, whatever stands behind it.
func TestTakeNumbers(t *testing.T) {
	nine := strings.Repeat("\x80", 9)
	for _, kind := range kinds {
		for i := range shapes[kind] {
			ahead := string([]byte{byte(kind)}) + strings.Repeat("\x01", i)
			noTake(t, []byte(ahead), api.ErrShort)
			for _, behind := range []string{"", "\x80\x00", "\x80", number(1 << 41), strings.Repeat("\x01", 9)} {
				noTake(t, []byte(ahead+"\x80\x00"+behind), api.ErrForm)
				noTake(t, []byte(ahead+nine+"\x02"+behind), api.ErrLimit)
				noTake(t, []byte(ahead+number(1<<40+1)+behind), api.ErrLimit)
				noTake(t, []byte(ahead+number(math.MaxUint64)+behind), api.ErrLimit)
				noTake(t, []byte(ahead+number(1<<63)+behind), api.ErrLimit)
			}
			noTake(t, []byte(ahead+"\x80"), api.ErrShort)
			// Up to 2^40 it is a number, which what stands behind it is asked ahead of.
			if i+1 < shapes[kind] {
				noTake(t, []byte(ahead+number(1<<40)), api.ErrShort)
				noTake(t, []byte(ahead+number(1<<40)+"\x80\x00"), api.ErrForm)
			}
		}
	}
}

// P13.3: bytes that are left go ahead of what the numbers may be.
func TestTakeLeft(t *testing.T) {
	for _, kind := range kinds {
		b := mustPut(t, right(kind))
		noTake(t, append(b, 0), api.ErrForm)
		noTake(t, append(b, b...), api.ErrForm)
	}
	noTake(t, []byte("\x04\x03\x07\x01\x00"), api.ErrForm)
	noTake(t, []byte("\x04\x03\x07\x01"), api.ErrArg)
}

// P13.3: Check's error of what the bytes say.
func TestTakeChecks(t *testing.T) {
	tooMany := "\x21" + strings.Repeat("\x00\x00\x02\x00\x00\x03", 16) + "\x00\x00\x02"
	for _, c := range []struct {
		b    string
		want api.Errno
	}{
		{"\x02\x00\x01\x01", api.OK},
		{"\x02\x03\x01\x01", api.ErrArg},
		{"\x02\x00\x02\x01", api.ErrArg},
		{"\x02\x00\x00\x01", api.ErrArg},
		{"\x02" + number(1<<40) + "\x01\x01", api.ErrArg},
		{"\x02\x00\x01" + number(1<<40), api.OK},
		{"\x03\x00\x01\x01\x00", api.OK},
		{"\x03\x00\x00\x01\x00", api.ErrArg},
		{"\x03\x00\x21\x01\x00", api.ErrArg},
		{"\x03\x00\x20\x01" + number(1<<40), api.OK},
		{"\x04\x00\x01\x00", api.ErrArg},
		{"\x04\x00\x01" + number(1<<30), api.OK},
		{"\x04\x00\x01" + number(1<<30+1), api.ErrArg},
		{"\x05\x00\x01\x01" + number(1<<40), api.OK},
		{"\x06\x00\x01" + number(1<<40), api.ErrArg},
		{"\x01\x00\x01\x64" + tooMany + "\x00", api.ErrLimit},
		{"\x01\x03\x01\x64" + tooMany + "\x00", api.ErrArg},
		{"\x01\x00\x01\x64" + tooMany + "\x00\x00", api.ErrForm},
		{"\x01\x00\x02\x09\x01\x00\x00\x02\x00", api.ErrForm},
		{"\x01\x00\x02\x09\x01\x01\x08\x02\x00", api.ErrForm},
		{"\x01\x00\x02\x09\x01\x01\x07\x02\x00", api.OK},
		{"\x01\x00\x02\x09\x01\x01\x07\x01\x00", api.ErrForm},
		{"\x01\x00\x02\x09\x01\x01\x00\x02\x01\x02\x00\x00", api.ErrTick},
		{"\x01\x00\x02\x09\x01\x01\x00\x02\x01\x03\x00\x00", api.OK},
		{"\x01\x00\x02\x09\x00\x01\x00\x00\x00", api.ErrTick},
		{"\x01\x00\x02\x09\x00\x01\x0a\x00\x00", api.ErrTick},
		{"\x01\x00\x02\x09\x00\x02\x05\x00\x00\x05\x00\x00", api.ErrTick},
		{"\x01\x00\x02\x09\x00\x01" + number(1<<40) + "\x00\x00", api.ErrTick},
	} {
		if c.want != api.OK {
			noTake(t, []byte(c.b), c.want)
			continue
		}
		p, fault := parcel.Take([]byte(c.b))
		wantErr(t, "Take", fault, api.OK)
		if got := mustPut(t, p); string(got) != c.b {
			t.Fatalf("% x is taken for %+v, whose bytes are % x", c.b, p, got)
		}
	}
}

// P13.3: span's error of the spans.
func TestTakeSpans(t *testing.T) {
	head := "\x01\x00\x01\x09"
	nine := strings.Repeat("\x80", 9)
	for _, c := range []struct {
		b    string
		want api.Errno
	}{
		{"", api.ErrShort},
		{"\x80\x00", api.ErrForm},
		{number(257), api.ErrLimit},
		{number(math.MaxUint64), api.ErrLimit},
		{nine + "\x02", api.ErrLimit},
		{number(256), api.ErrShort},
		{"\x01", api.ErrShort},
		{"\x01\x00\x00", api.ErrShort},
		{"\x01\x00\x00\x00", api.ErrForm},
		{"\x01\x00\x00\x04", api.ErrForm},
		{"\x01" + number(1<<40) + "\x00\x02", api.ErrForm},
		{"\x01" + number(1<<41) + "\x00\x02", api.ErrForm},
		{"\x01" + number(math.MaxUint64) + number(math.MaxUint64) + "\x02", api.ErrForm},
		{"\x02\x00\x00\x02\x00\x00\x02", api.ErrForm},
		{"\x02\x00\x00\x02\x00\x80\x00", api.ErrForm},
		{"\x02\x00\x00\x02\x00\x00", api.ErrShort},
		{"\x00", api.ErrShort},
	} {
		noTake(t, []byte(head+c.b), c.want)
	}
}

// P13.3: items, part by part.
func TestTakeItems(t *testing.T) {
	head := "\x01\x00\x01\x09\x00"
	nine := strings.Repeat("\x80", 9)
	for _, c := range []struct {
		b    string
		want api.Errno
	}{
		{"", api.ErrShort},
		{"\x80\x00", api.ErrForm},
		{"\x09", api.ErrLimit},
		{"\x09" + strings.Repeat("\x01\x00\x00", 9), api.ErrLimit},
		{number(math.MaxUint64), api.ErrLimit},
		{nine + "\x02", api.ErrLimit},
		{"\x08", api.ErrShort},
		{"\x01\x80\x00", api.ErrForm},
		{"\x01" + number(1<<40+1), api.ErrLimit},
		{"\x01" + number(1<<40), api.ErrShort},
		{"\x01\x01", api.ErrShort},
		{"\x01\x01\x80\x00", api.ErrForm},
		{"\x01\x01" + number(1<<32), api.ErrLimit},
		{"\x01\x01" + number(1<<40), api.ErrLimit},
		{"\x01\x01" + number(math.MaxUint64), api.ErrLimit},
		{"\x01\x01" + number(1<<32-1), api.ErrShort},
		{"\x01\x01\x00\x80\x00", api.ErrForm},
		{"\x01\x01\x00" + number(401), api.ErrLimit},
		{"\x01\x01\x00" + number(401) + strings.Repeat("x", 401), api.ErrLimit},
		{"\x01\x01\x00" + number(1<<63+1), api.ErrLimit},
		{"\x01\x01\x00" + number(400), api.ErrShort},
		{"\x01\x01\x00" + number(400) + strings.Repeat("x", 399), api.ErrShort},
		{"\x01\x01\x00" + number(400) + strings.Repeat("x", 401), api.ErrForm},
		{"\x02\x01\x00\x02ab", api.ErrShort},
		{"\x02\x01\x00\x02ab\x01" + number(1<<32) + "\x00", api.ErrLimit},
		{"\x02\x01\x00\x02ab\x02\x00\x02a", api.ErrShort},
		{"\x02\x01\x00\x02ab\x01\x00\x00", api.ErrTick},
		{"\x02\x01\x00\x03ab", api.ErrShort},
	} {
		noTake(t, []byte(head+c.b), c.want)
	}
	whole := head + "\x02\x01" + number(1<<32-1) + number(400) + strings.Repeat("x", 400) + "\x09\x00\x00"
	p, fault := parcel.Take([]byte(whole))
	wantErr(t, "Take", fault, api.OK)
	if len(p.Items) != 2 || p.Items[0].For != 1<<32-1 || len(p.Items[0].Body) != 400 || p.Items[1].Tick != 9 {
		t.Fatalf("Take of two items: %+v", p)
	}
}

// P13.4
func TestCutShort(t *testing.T) {
	for _, kind := range kinds {
		b := mustPut(t, right(kind))
		for cut := range b {
			noTake(t, b[:cut], api.ErrShort)
		}
	}
}

// P13.4: all rows of up to five bytes of an alphabet of edges: what is taken is put as those very bytes.
func TestNoOtherBytes(t *testing.T) {
	edges := []byte{0, 1, 2, 3, 5, 9, 0x20, 0x21, 0x7f, 0x80, 0x81}
	rows := [][]byte{nil}
	for range 5 {
		var longer [][]byte
		for _, row := range rows {
			for _, x := range edges {
				longer = append(longer, append(bytes.Clone(row), x))
			}
		}
		for _, row := range longer {
			putAgain(t, row)
		}
		rows = longer
	}
}

// putAgain puts whatever is taken, and holds it against the bytes.
func putAgain(t *testing.T, b []byte) {
	t.Helper()
	p, fault := parcel.Take(b)
	if fault != api.OK {
		if !same(p, api.Parcel{}) {
			t.Fatalf("Take of % x: error %d, and %+v", b, fault, p)
		}
		return
	}
	wantRight(t, p)
	if got := mustPut(t, p); !bytes.Equal(got, b) {
		t.Fatalf("% x is taken for %+v, whose bytes are % x", b, p, got)
	}
	if !same(parcel.Plain(p), p) {
		t.Fatalf("% x is taken for what is not plain: %+v", b, p)
	}
}
