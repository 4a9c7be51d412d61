package evlog_test

import (
	"math"
	"slices"
	"testing"

	"grapevine/api"
	"grapevine/evlog"
	"grapevine/mark"
	"grapevine/octet"
	"grapevine/sector"
)

// sectors is a disk of a log of three segments from 0 on, some of whose sectors are laid.
func sectors(t *testing.T, rows map[int][]byte) *sector.Disk {
	t.Helper()
	d := mustDisk(t, 50)
	for i, b := range rows {
		set(t, d, i, b)
	}
	return d
}

// cellOf is a cell's sector.
func cellOf(n, v int64) []byte {
	return slices.Concat([]byte{1}, octet.Key(n), octet.Key(v), make([]byte, 46), []byte{1})
}

// changed is a row with one byte of another value.
func changed(b []byte, at int, c byte) []byte {
	b = slices.Clone(b)
	b[at] = c
	return b
}

// Words: which first sectors are heads.
func TestHeads(t *testing.T) {
	good := headOf(3, 7)
	payload := good[4:20]
	for _, at := range []struct {
		name string
		b    []byte
		used int
		high int
	}{
		{"a head", good, 1, 7},
		{"the least", headOf(1, 0), 1, 0},
		{"the greatest", headOf(top, api.MaxTick), 1, api.MaxTick},
		{"number 0", headOf(0, 7), 0, 0},
		{"a number below 0", headOf(-1, 7), 0, 0},
		{"the least of all", headOf(math.MinInt64, 7), 0, 0},
		{"a number too great", headOf(top+1, 7), 0, 0},
		{"the greatest of all", headOf(math.MaxInt64, 7), 0, 0},
		{"a tick below 0", headOf(3, -1), 0, 0},
		{"a tick too great", headOf(3, api.MaxTick+1), 0, 0},
		{"the greatest tick of all", headOf(3, math.MaxInt64), 0, 0},
		{"empty", nil, 0, 0},
		{"kind 0", laid(0, 1, payload...), 0, 0},
		{"kind 2", laid(2, 1, payload...), 0, 0},
		{"kind 3", laid(3, 1, payload...), 0, 0},
		{"kind 4", laid(4, 1, payload...), 0, 0},
		{"no last one", laid(1, 0, payload...), 0, 0},
		{"no last one, full", laid(1, 0, append(slices.Clone(payload), make([]byte, 43)...)...), 0, 0},
		{"last is 2", laid(1, 2, payload...), 0, 0},
		{"last is 255", laid(1, 255, payload...), 0, 0},
		{"no payload", laid(1, 1), 0, 0},
		{"seven bytes", laid(1, 1, payload[:7]...), 0, 0},
		{"eight bytes", laid(1, 1, payload[:8]...), 0, 0},
		{"fifteen bytes", laid(1, 1, payload[:15]...), 0, 0},
		{"seventeen bytes", laid(1, 1, append(slices.Clone(payload), 0)...), 0, 0},
		{"59 bytes", laid(1, 1, append(slices.Clone(payload), make([]byte, 43)...)...), 0, 0},
		{"another first byte", changed(good, 0, 0xe6), 0, 0},
		{"another last byte", changed(good, 63, 0), 0, 0},
		{"a byte behind the payload", changed(good, 20, 1), 0, 0},
		{"a byte ahead of the last one", changed(good, 62, 0xe7), 0, 0},
		{"a length too great", changed(good, 2, 60), 0, 0},
		{"a length far too great", changed(good, 2, 255), 0, 0},
		{"a shorter length", changed(good, 2, 15), 0, 0},
	} {
		l := mustOpen(t, sectors(t, map[int][]byte{18: at.b}), 0, 3)
		if l.Used() != at.used || l.High() != at.high {
			t.Fatalf("%s: used %d, high %d, wanted %d, %d", at.name, l.Used(), l.High(), at.used, at.high)
		}
		wantTicks(t, l)
	}
}

// Words: which sectors are a record; a second one stands behind it, which is not come to if the first one is none.
func TestRecords(t *testing.T) {
	key := octet.Key(20)
	full := append(octet.Key(20), text(51)...)
	good := laid(2, 1, append(slices.Clone(key), "ab"...)...)
	more := laid(3, 1, 'x')
	for _, at := range []struct {
		name string
		rows [][]byte
		body string
		is   bool
	}{
		{"one sector", [][]byte{good}, "ab", true},
		{"without a body", [][]byte{laid(2, 1, key...)}, "", true},
		{"a full one", [][]byte{laid(2, 1, full...)}, text(51), true},
		{"two", [][]byte{laid(2, 0, full...), more}, text(51) + "x", true},
		{"three", [][]byte{laid(2, 0, full...), laid(3, 0, []byte(text(59))...), more}, text(51) + text(59) + "x", true},
		{"an empty last one", [][]byte{laid(2, 0, full...), laid(3, 1)}, text(51), true},
		{"two full ones", [][]byte{laid(2, 0, full...), laid(3, 1, []byte(text(59))...)}, text(51) + text(59), true},
		{"no payload", [][]byte{laid(2, 1)}, "", false},
		{"seven bytes", [][]byte{laid(2, 1, key[:7]...)}, "", false},
		{"kind 0", [][]byte{laid(0, 1, key...)}, "", false},
		{"kind 1", [][]byte{laid(1, 1, key...)}, "", false},
		{"kind 3 first", [][]byte{laid(3, 1, key...)}, "", false},
		{"kind 4", [][]byte{laid(4, 1, key...)}, "", false},
		{"a head", [][]byte{headOf(20, 20)}, "", false},
		{"no last one, not full", [][]byte{laid(2, 0, full[:58]...), more}, "", false},
		{"kind 2 behind", [][]byte{laid(2, 0, full...), laid(2, 1, key...)}, "", false},
		{"kind 1 behind", [][]byte{laid(2, 0, full...), laid(1, 1, 'x')}, "", false},
		{"a hole behind", [][]byte{laid(2, 0, full...), make([]byte, 64), more}, "", false},
		{"not full behind", [][]byte{laid(2, 0, full...), laid(3, 0, 'y'), more}, "", false},
		{"last is 2", [][]byte{laid(2, 2, key...)}, "", false},
		{"last is 2, full", [][]byte{laid(2, 2, full...), more}, "", false},
		{"another first byte", [][]byte{changed(good, 0, 0)}, "", false},
		{"another last byte", [][]byte{changed(good, 63, 0)}, "", false},
		{"a byte behind the payload", [][]byte{changed(good, 14, 1)}, "", false},
		{"a byte ahead of the last one", [][]byte{changed(good, 62, 1)}, "", false},
		{"a length too great", [][]byte{changed(laid(2, 1, full...), 2, 60)}, "", false},
		{"torn", [][]byte{append(slices.Clone(good[:12]), make([]byte, 52)...)}, "", false},
		{"a hole first", [][]byte{make([]byte, 64), good}, "", false},
	} {
		rows := map[int][]byte{2: headOf(1, 7)}
		for i, b := range at.rows {
			rows[3+i] = b
		}
		rows[3+len(at.rows)] = recOf(30, "next")
		d := sectors(t, rows)
		l := mustOpen(t, d, 0, 3)
		want := []api.Rec{{Tick: 20, Body: []byte(at.body)}, {Tick: 30, Body: []byte("next")}}
		if !at.is {
			want = nil
		}
		if got := l.Events(0, 99); !sameRecs(got, want) {
			t.Fatalf("%s: %v", at.name, got)
		}
		// The segment was read last: what is behind its end is wiped.
		if !at.is {
			for i := 3; i < 18; i++ {
				wantSector(t, d, i, make([]byte, api.Sector))
			}
		}
	}
}

// Words: which ticks a record may have behind a head of 7.
func TestTicksThatAreRead(t *testing.T) {
	for _, at := range []struct {
		tick int64
		is   bool
	}{
		{8, true}, {9, true}, {api.MaxTick, true}, {7, false}, {6, false}, {0, false}, {-1, false},
		{api.MaxTick + 1, false}, {math.MaxInt64, false}, {math.MinInt64, false},
	} {
		l := mustOpen(t, sectors(t, map[int][]byte{2: headOf(1, 7), 3: recOf(at.tick, "x")}), 0, 3)
		if !at.is {
			wantLog(t, l, 7, 0, 1)
			wantTicks(t, l)
			continue
		}
		wantLog(t, l, int(at.tick), 0, 1)
		wantTicks(t, l, int(at.tick))
	}
}

// Words: a record ends within its segment, and may be longer there than one that is appended.
func TestRecordAndSegmentEnd(t *testing.T) {
	for sectorsOf := 14; sectorsOf <= 16; sectorsOf++ {
		all := append(octet.Key(20), text(59*sectorsOf-8)...)
		rows := map[int][]byte{2: headOf(1, 7)}
		for k := range sectorsOf {
			kind, last := byte(3), byte(0)
			if k == 0 {
				kind = 2
			}
			if k == sectorsOf-1 {
				last = 1
			}
			rows[3+k] = laid(kind, last, all[59*k:59*k+59]...)
		}
		l := mustOpen(t, sectors(t, rows), 0, 3)
		want := []api.Rec{{Tick: 20, Body: all[8:]}}
		if sectorsOf > 15 {
			want = nil
		}
		if got := l.Events(0, 99); !sameRecs(got, want) {
			t.Fatalf("a record of %d sectors: %d records", sectorsOf, len(got))
		}
	}
}

// Words: segments are read by their numbers, of like ones the lower one first; a tick that is not above stops.
func TestOrderOfSegments(t *testing.T) {
	for _, at := range []struct {
		name       string
		rows       map[int][]byte
		high, used int
		ticks      []int
	}{
		{"by their numbers", map[int][]byte{
			34: headOf(1, 0), 35: recOf(1, ""), 2: headOf(2, 1), 3: recOf(2, ""), 18: headOf(9, 2), 19: recOf(3, ""),
		}, 3, 3, []int{1, 2, 3}},
		{"of like ones the lower one", map[int][]byte{
			2: headOf(5, 0), 3: recOf(4, ""), 18: headOf(5, 0), 19: recOf(6, ""), 34: headOf(5, 0), 35: recOf(5, ""),
		}, 6, 3, []int{4, 6}},
		{"the head's tick, if it is greater", map[int][]byte{
			2: headOf(1, 10), 3: recOf(11, ""), 18: headOf(2, 5), 19: recOf(12, ""), 34: headOf(3, 50), 35: recOf(40, ""), 36: recOf(60, ""),
		}, 50, 3, []int{11, 12}},
		{"each record on its own", map[int][]byte{
			2: headOf(1, 0), 3: recOf(5, ""), 4: recOf(9, ""), 5: recOf(9, ""), 6: recOf(20, ""), 18: headOf(2, 0), 19: recOf(10, ""),
		}, 10, 2, []int{5, 9, 10}},
		{"not used", map[int][]byte{3: recOf(5, ""), 18: headOf(2, 0), 35: recOf(9, "")}, 0, 1, nil},
	} {
		l := mustOpen(t, sectors(t, at.rows), 0, 3)
		if l.High() != at.high || l.Used() != at.used {
			t.Fatalf("%s: high %d, used %d", at.name, l.High(), l.Used())
		}
		wantTicks(t, l, at.ticks...)
	}
}

// Words: the cell's value is the released tick, and the high one, if that is less.
func TestReleasedTick(t *testing.T) {
	for _, at := range []struct {
		first, second []byte
		high, rel     int
		ticks         []int
	}{
		{nil, nil, 20, 0, []int{10, 20}},
		{[]byte("no cell"), nil, 20, 0, []int{10, 20}},
		{cellOf(1, 0), nil, 20, 0, []int{10, 20}},
		{cellOf(1, 9), nil, 20, 9, []int{10, 20}},
		{cellOf(1, 10), nil, 20, 10, []int{20}},
		{nil, cellOf(4, 15), 20, 15, []int{20}},
		{cellOf(1, 19), cellOf(2, 12), 20, 12, []int{20}},
		{cellOf(1, 20), nil, 20, 20, nil},
		{cellOf(1, 21), nil, 21, 21, nil},
		{cellOf(1, api.MaxTick), nil, api.MaxTick, api.MaxTick, nil},
		{cellOf(1, api.MaxTick+1), nil, 20, 0, []int{10, 20}},
	} {
		d := sectors(t, map[int][]byte{0: at.first, 1: at.second, 2: headOf(1, 0), 3: recOf(10, ""), 4: recOf(20, "")})
		l := mustOpen(t, d, 0, 3)
		wantLog(t, l, at.high, at.rel, 1)
		wantTicks(t, l, at.ticks...)
		if at.high < api.MaxTick {
			wantErr(t, "Append", l.Append(at.high, nil), api.ErrTick)
			mustAppend(t, l, at.high+1, "")
		}
	}
	l := mustOpen(t, sectors(t, map[int][]byte{0: cellOf(1, 33)}), 0, 3)
	wantLog(t, l, 33, 33, 0)
	wantErr(t, "Append", l.Append(33, nil), api.ErrTick)
	mustAppend(t, l, 34, "")
	wantLog(t, l, 34, 33, 1)
}

// P11.1: segments that are released are freed, but for the one read last; the high tick is that behind each.
func TestOpenFrees(t *testing.T) {
	rows := func(cell int64) map[int][]byte {
		return map[int][]byte{
			0:  cellOf(1, cell),
			34: headOf(1, 0), 35: recOf(10, "a"),
			2: headOf(2, 10), 3: recOf(20, "b"),
			18: headOf(3, 20), 19: recOf(30, "c"),
		}
	}
	for _, at := range []struct {
		cell  int64
		used  int
		freed []int
	}{
		{0, 3, nil}, {9, 3, nil}, {10, 2, []int{34}}, {19, 2, []int{34}}, {20, 1, []int{34, 2}}, {29, 1, []int{34, 2}},
		{30, 1, []int{34, 2}}, {99, 1, []int{34, 2}},
	} {
		d := sectors(t, rows(at.cell))
		l := mustOpen(t, d, 0, 3)
		if l.Used() != at.used || d.Waits() != 0 {
			t.Fatalf("released %d: used %d, %d writes wait", at.cell, l.Used(), d.Waits())
		}
		for i, b := range rows(at.cell) {
			if slices.Contains(at.freed, i) {
				b = make([]byte, api.Sector)
			}
			wantSector(t, d, i, b)
		}
	}
}

// P11.1: the high tick is the one behind a segment, wherever it came from.
func TestOpenFreesByTheHighTickBehind(t *testing.T) {
	rows := map[int][]byte{
		0: cellOf(1, 15),
		2: headOf(1, 0), 3: recOf(20, "a"),
		18: headOf(2, 5),
		34: headOf(3, 5), 35: recOf(30, "c"),
	}
	d := sectors(t, rows)
	l := mustOpen(t, d, 0, 3)
	wantLog(t, l, 30, 15, 3)
	mustChop(t, l, 19)
	wantLog(t, l, 30, 19, 3)
	mustChop(t, l, 20)
	wantLog(t, l, 30, 20, 1)
	wantTicks(t, l, 30)
	// Without anything in it, and with nothing released: what is behind it is not above 0.
	l = mustOpen(t, sectors(t, map[int][]byte{2: headOf(1, 0), 18: headOf(2, 0)}), 0, 3)
	wantLog(t, l, 0, 0, 1)
}

// P11.1: behind the end of the segment read last alone is wiped, and only what is not empty; it is synced, if something was written.
func TestOpenWipes(t *testing.T) {
	rows := map[int][]byte{
		2: headOf(1, 0), 3: recOf(10, "a"), 5: []byte("junk"), 17: recOf(11, "x"),
		18: headOf(2, 10), 19: recOf(20, "b"), 21: []byte("junk"), 33: recOf(21, "y"),
		36: []byte("junk"),
	}
	steps := func(d *sector.Disk) int {
		for n := 1; ; n++ {
			f := d.Fork()
			wantErr(t, "Trip", f.Trip(n), api.OK)
			l, fault := evlog.Open(f, 0, 3)
			if fault == api.OK {
				return n - 1
			}
			if fault != api.ErrDown || l != nil || !f.Down() {
				t.Fatalf("Open that trips: %v, error %d", l, fault)
			}
		}
	}
	d := sectors(t, rows)
	if n := steps(d); n != 3 {
		t.Fatalf("Open has %d steps, wanted two writes and a sync", n)
	}
	mustOpen(t, d, 0, 3)
	if n := steps(d); n != 0 {
		t.Fatalf("Open of a tidy log has %d steps", n)
	}
	rows[21], rows[33] = nil, nil
	for i, b := range rows {
		wantSector(t, d, i, append(slices.Clone(b), make([]byte, api.Sector-len(b))...))
	}
	if d.Waits() != 0 {
		t.Fatal("Open did not sync")
	}
	// Nothing is used: nothing is wiped.
	d = sectors(t, map[int][]byte{3: recOf(10, "a"), 20: []byte("junk")})
	if n := steps(d); n != 0 {
		t.Fatalf("Open of a log without segments has %d steps", n)
	}
	// A write that waits, and that Open reads, is not synced by it.
	wantErr(t, "Write", d.Write(2, headOf(1, 4)), api.OK)
	wantErr(t, "Write", d.Write(3, nil), api.OK)
	l := mustOpen(t, d, 0, 3)
	wantLog(t, l, 4, 0, 1)
	if d.Waits() != 2 {
		t.Fatalf("%d writes wait", d.Waits())
	}
}

// P11.2: what was opened goes on in the segment read last, with its numbers and ticks.
func TestGoesOn(t *testing.T) {
	d := sectors(t, map[int][]byte{
		18: headOf(8, 0), 19: recOf(10, "a"), 20: recOf(11, "b"),
		2: headOf(5, 0), 3: recOf(2, "c"),
	})
	l := mustOpen(t, d, 0, 3)
	wantTicks(t, l, 2, 10, 11)
	mustAppend(t, l, 12, "d")
	wantSector(t, d, 21, recOf(12, "d"))
	for tick := 13; tick <= 24; tick++ {
		mustAppend(t, l, tick, "")
	}
	wantLog(t, l, 24, 0, 2)
	mustAppend(t, l, 25, "")
	wantLog(t, l, 25, 0, 3)
	wantSector(t, d, 34, headOf(9, 24))
	wantErr(t, "Append", l.Append(26, make([]byte, 400)), api.OK)
	wantErr(t, "Append", l.Append(27, make([]byte, 400)), api.OK)
	wantErr(t, "Append", l.Append(28, nil), api.ErrFull)
	mustChop(t, l, 2)
	wantLog(t, l, 27, 2, 2)
	mustAppend(t, l, 28, "")
	wantSector(t, d, 2, headOf(10, 27))
}

// P11.3: Chop puts the cell by mark's rules, into the sector that does not count.
func TestChopPutsTheCell(t *testing.T) {
	d := sectors(t, map[int][]byte{0: cellOf(4, 1), 1: cellOf(3, 0), 2: headOf(1, 0), 3: recOf(10, "")})
	l := mustOpen(t, d, 0, 3)
	f := d.Fork()
	c, _ := mark.Open(f, 0, 1)
	wantErr(t, "Put", c.Put(0, 9), api.OK)
	mustChop(t, l, 9)
	for i := range 2 {
		want, _ := f.Read(i)
		wantSector(t, d, i, want)
	}
	wantTicks(t, l, 10)
}
