package span_test

import (
	"bytes"
	"math"
	"slices"
	"testing"

	"grapevine/api"
	"grapevine/octet"
	"grapevine/span"
)

// P8.4, and the chapter's example.
func TestPutBytes(t *testing.T) {
	for _, c := range []struct {
		l    []api.Span
		want string
	}{
		{nil, "\x00"}, {spans(sp(2, 3, api.Lost)), "\x01\x01\x01\x03"}, {spans(sp(1, 1, api.Data)), "\x01\x00\x00\x01"}, {spans(sp(1, 5, api.Data), sp(6, 6, api.Silence)), "\x02\x00\x04\x01\x00\x00\x02"}, {spans(sp(1, 5, api.Data), sp(7, 9, api.Data), sp(20, 319, api.Lost)), "\x03\x00\x04\x01\x01\x02\x01\x0a\xab\x02\x03"}, {spans(sp(1, last, api.Data)), "\x01\x00\xff\xff\xff\xff\xff\x1f\x01"}, {spans(sp(last, last, api.Silence)), "\x01\xff\xff\xff\xff\xff\x1f\x00\x02"},
	} {
		if b, fault := span.Put(c.l); fault != api.OK || string(b) != c.want {
			t.Fatalf("Put(%v): %x, error %d, wanted %x", c.l, b, fault, c.want)
		}
	}
}

// P8.4
func TestPutFaults(t *testing.T) {
	for _, l := range wrongs() {
		if b, fault := span.Put(l); len(b) != 0 || fault != api.ErrArg {
			t.Fatalf("Put(%v): %x, error %d", l, b, fault)
		}
	}
	full := many(api.MaxSpans)
	if b, fault := span.Put(full); fault != api.OK || len(b) != 2+3*api.MaxSpans {
		t.Fatalf("Put of MaxSpans: %d bytes, error %d", len(b), fault)
	}
	for _, n := range []int{api.MaxSpans + 1, 5000} {
		if b, fault := span.Put(many(n)); len(b) != 0 || fault != api.ErrLimit {
			t.Fatalf("Put of %d: %x, error %d", n, b, fault)
		}
		if b, fault := span.Put(append(many(n), api.Span{})); len(b) != 0 || fault != api.ErrArg {
			t.Fatalf("Put of %d and a wrong one: %x, error %d", n, b, fault)
		}
	}
}

// P8.7: what is put is taken as it was, whatever stands around; cut short it is ErrShort.
func TestTakenAsPut(t *testing.T) {
	maps := [][]api.Span{many(api.MaxSpans), spans(sp(1, last-1, api.Lost), sp(last, last, api.Data))}
	each(5, func(d *dice, at int) { maps = append(maps, laid(d.row(), at)) })
	for _, l := range maps {
		b, fault := span.Put(l)
		if fault != api.OK {
			t.Fatalf("Put(%v): error %d", l, fault)
		}
		for _, ahead := range []string{"", "\x00", "\x01\x01", "\xff\xff\xff"} {
			for _, behind := range []string{"", "\x00\x00\x00", "\xff", "\x01\x01\x01\x01"} {
				around := []byte(ahead + string(b) + behind)
				got, next, fault := span.Take(around, len(ahead))
				if fault != api.OK || next != len(ahead)+len(b) || !slices.Equal(got, l) {
					t.Fatalf("Take(%x, %d): %v, %d, error %d", around, len(ahead), got, next, fault)
				}
			}
		}
		for cut := range b {
			wantFault(t, b[:cut], 0, api.ErrShort)
		}
	}
}

func wantFault(t *testing.T, b []byte, at int, want api.Errno) {
	t.Helper()
	if l, next, fault := span.Take(b, at); len(l) != 0 || next != 0 || fault != want {
		t.Fatalf("Take(%x, %d): %v, %d, error %d, wanted %d", b, at, l, next, fault, want)
	}
}

// P8.4: of several errors the first one, from the left.
func TestTakeFaults(t *testing.T) {
	most := "\xff\xff\xff\xff\xff\xff\xff\xff\xff\x01" // 2^64 - 1
	ticks := string(octet.Uint(last))
	fewer := string(octet.Uint(last - 1))
	for _, c := range []struct {
		b    string
		want api.Errno
	}{
		{"", api.ErrShort}, {"\x80", api.ErrShort}, {"\x80\x00", api.ErrForm}, {"\xff\xff\xff\xff\xff\xff\xff\xff\xff\x02", api.ErrLimit}, {"\x81\x02", api.ErrLimit}, {most, api.ErrLimit}, {"\x80\x02", api.ErrShort},
		{"\x01", api.ErrShort}, {"\x01\x00", api.ErrShort}, {"\x01\x00\x00", api.ErrShort}, {"\x01\x80\x00", api.ErrForm}, {"\x01\x00\x80\x00", api.ErrForm}, {"\x01\xff\xff\xff\xff\xff\xff\xff\xff\xff\x02", api.ErrLimit}, {"\x01\x00\xff\xff\xff\xff\xff\xff\xff\xff\xff\x7f", api.ErrLimit},
		// Is.
		{"\x01\x00\x00\x00", api.ErrForm}, {"\x01\x00\x00\x04", api.ErrForm}, {"\x01\x00\x00\xff", api.ErrForm}, {"\x02\x00\x00\x01\x00\x00\x00", api.ErrForm},
		// Beyond the last tick.
		{"\x01" + ticks + "\x00\x01", api.ErrForm}, {"\x01\x00" + ticks + "\x01", api.ErrForm}, {"\x01" + fewer + "\x01\x01", api.ErrForm}, {"\x01\x01" + fewer + "\x01", api.ErrForm}, {"\x01" + ticks + ticks + "\x01", api.ErrForm}, {"\x01" + most + "\x00\x01", api.ErrForm}, {"\x01\x00" + most + "\x01", api.ErrForm}, {"\x01" + most + most + "\x01", api.ErrForm}, {"\x01\x05" + most + "\x01", api.ErrForm}, {"\x02\x00" + fewer + "\x01\x00\x00\x02", api.ErrForm}, {"\x02\x04\x00\x01" + fewer + "\x00\x02", api.ErrForm}, {"\x02\x04\x00\x01\x00" + fewer + "\x02", api.ErrForm}, {"\x02\x04\x00\x01" + most + most + "\x02", api.ErrForm},
		// The byte is asked for ahead of what the numbers come to, and both numbers ahead of it.
		{"\x01" + most + "\x00", api.ErrShort}, {"\x01" + most, api.ErrShort}, {"\x01" + most + "\x80\x00\x01", api.ErrForm}, {"\x01\x00" + most, api.ErrShort},
		// Just behind the one ahead, and of the same Is.
		{"\x02\x00\x00\x01\x00\x00\x01", api.ErrForm}, {"\x02\x00\x00\x03\x00\x05\x03", api.ErrForm}, {"\x03\x00\x00\x01\x01\x00\x01\x00\x00\x01", api.ErrForm}, {"\x03\x00\x00\x01\x00\x00\x01", api.ErrForm}, {"\x03\x00\x00\x01\x00\x00\x02", api.ErrShort},
	} {
		wantFault(t, []byte(c.b), 0, c.want)
		wantFault(t, []byte("xy"+c.b), 2, c.want)
	}
	for _, at := range []int{-1, 5, math.MinInt, math.MaxInt} {
		wantFault(t, []byte("\x01\x00\x00\x01"), at, api.ErrArg)
		wantFault(t, nil, at, api.ErrArg)
	}
	wantFault(t, []byte("\x01\x00\x00\x01"), 4, api.ErrShort)
	for _, c := range []struct {
		b    string
		want []api.Span
	}{
		{"\x01\x00" + fewer + "\x01", spans(sp(1, last, api.Data))}, {"\x01" + fewer + "\x00\x02", spans(sp(last, last, api.Silence))}, {"\x02\x04\x00\x01" + string(octet.Uint(last-6)) + "\x00\x01", spans(sp(5, 5, api.Data), sp(last, last, api.Data))}, {"\x02\x00\x00\x01\x00\x00\x02", spans(sp(1, 1, api.Data), sp(2, 2, api.Silence))}, {"\x02\x00\x00\x01\x01\x00\x01", spans(sp(1, 1, api.Data), sp(3, 3, api.Data))},
	} {
		if l, next, fault := span.Take([]byte(c.b), 0); fault != api.OK || next != len(c.b) || !slices.Equal(l, c.want) {
			t.Fatalf("Take(%x): %v, %d, error %d, wanted %v", c.b, l, next, fault, c.want)
		}
	}
}

// P8.7: no other bytes are taken for a map: what is taken is put as it stood.
func TestNoOtherBytes(t *testing.T) {
	d := dice(6)
	alphabet := []byte{0, 0, 1, 1, 2, 3, 4, 0x80, 0x81, 0xff, 0x1f}
	taken := 0
	for range 200000 {
		b := make([]byte, d.roll(12))
		for i := range b {
			b[i] = alphabet[d.roll(len(alphabet))]
		}
		at := d.roll(3)
		l, next, fault := span.Take(b, at)
		if fault != api.OK {
			continue
		}
		taken++
		if again, fault := span.Put(l); fault != api.OK || !span.Right(l) || !bytes.Equal(again, b[at:next]) {
			t.Fatalf("Take(%x, %d): %v, which is put as %x", b, at, l, again)
		}
	}
	if taken < 1000 {
		t.Fatalf("taken were %d alone", taken)
	}
}
