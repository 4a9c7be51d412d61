package evlog_test

import (
	"bytes"
	"math"
	"slices"
	"testing"

	"grapevine/api"
	"grapevine/evlog"
	"grapevine/mark"
	"grapevine/octet"
	"grapevine/sector"
)

const top = 1 << 62

func mustDisk(t *testing.T, n int) *sector.Disk {
	t.Helper()
	d, fault := sector.New(n)
	wantErr(t, "New", fault, api.OK)
	return d
}

func mustOpen(t *testing.T, d *sector.Disk, base, segs int) *evlog.Log {
	t.Helper()
	l, fault := evlog.Open(d, base, segs)
	if fault != api.OK || l == nil {
		t.Fatalf("Open at %d of %d: error %d", base, segs, fault)
	}
	return l
}

// fresh is a new disk of so many segments, and the log on it.
func fresh(t *testing.T, segs int) (*sector.Disk, *evlog.Log) {
	t.Helper()
	d := mustDisk(t, 2+segs*api.SegSectors)
	return d, mustOpen(t, d, 0, segs)
}

func wantErr(t *testing.T, call string, got, want api.Errno) {
	t.Helper()
	if got != want {
		t.Fatalf("%s: error %d, wanted %d", call, got, want)
	}
}

func mustAppend(t *testing.T, l *evlog.Log, tick int, body string) {
	t.Helper()
	wantErr(t, "Append", l.Append(tick, []byte(body)), api.OK)
}

func mustChop(t *testing.T, l *evlog.Log, tick int) {
	t.Helper()
	wantErr(t, "Chop", l.Chop(tick), api.OK)
}

func mustSync(t *testing.T, l *evlog.Log) {
	t.Helper()
	wantErr(t, "Sync", l.Sync(), api.OK)
}

// set lays a sector's bytes, and has them last.
func set(t *testing.T, d *sector.Disk, i int, b []byte) {
	t.Helper()
	wantErr(t, "Write", d.Write(i, b), api.OK)
	wantErr(t, "Sync", d.Sync(), api.OK)
}

func takeDown(t *testing.T, d *sector.Disk) {
	t.Helper()
	wantErr(t, "Trip", d.Trip(1), api.OK)
	wantErr(t, "Sync", d.Sync(), api.ErrDown)
}

// laid is a sector's bytes, made by hand.
func laid(kind byte, last byte, payload ...byte) []byte {
	b := make([]byte, api.Sector)
	copy(b, []byte{0xe7, kind, byte(len(payload)), last})
	copy(b[4:], payload)
	b[63] = 0xe7
	return b
}

func headOf(number, tick int64) []byte {
	return laid(1, 1, slices.Concat(octet.Key(number), octet.Key(tick))...)
}

// recOf is a record of one sector.
func recOf(tick int64, body string) []byte {
	return laid(2, 1, slices.Concat(octet.Key(tick), []byte(body))...)
}

func wantSector(t *testing.T, d *sector.Disk, i int, want []byte) {
	t.Helper()
	if b, fault := d.Read(i); fault != api.OK || !bytes.Equal(b, want) {
		t.Fatalf("sector %d: % x, error %d, wanted % x", i, b, fault, want)
	}
}

// wantLog holds what a log tells of itself against what it is to tell.
func wantLog(t *testing.T, l *evlog.Log, high, rel, used int) {
	t.Helper()
	if l.High() != high || l.Rel() != rel || l.Used() != used {
		t.Fatalf("high %d, released %d, used %d, wanted %d, %d, %d", l.High(), l.Rel(), l.Used(), high, rel, used)
	}
}

// wantTicks holds the ticks of all records against those that are to be there.
func wantTicks(t *testing.T, l *evlog.Log, want ...int) {
	t.Helper()
	var got []int
	for _, r := range l.Events(math.MinInt, math.MaxInt) {
		got = append(got, r.Tick)
	}
	if !slices.Equal(got, want) {
		t.Fatalf("ticks %v, wanted %v", got, want)
	}
}

func sameRecs(a, b []api.Rec) bool {
	return slices.EqualFunc(a, b, func(x, y api.Rec) bool { return x.Tick == y.Tick && bytes.Equal(x.Body, y.Body) })
}

// text is so many bytes that differ.
func text(n int) string {
	b := make([]byte, n)
	for i := range b {
		b[i] = byte(i*7 + 1)
	}
	return string(b)
}

// P11.1
func TestOpenArgs(t *testing.T) {
	for _, at := range []struct {
		size, base, segs int
		want             api.Errno
	}{
		{34, 0, 2, api.OK},
		{33, 0, 2, api.ErrArg},
		{34, 1, 2, api.ErrArg},
		{35, 1, 2, api.OK},
		{512, 0, 1, api.ErrArg},
		{512, 0, 0, api.ErrArg},
		{512, 0, -1, api.ErrArg},
		{258, 0, 16, api.OK},
		{257, 0, 16, api.ErrArg},
		{512, 254, 16, api.OK},
		{512, 255, 16, api.ErrArg},
		{512, 0, 17, api.ErrArg},
		{512, 478, 2, api.OK},
		{512, 479, 2, api.ErrArg},
		{512, -1, 2, api.ErrArg},
		{512, math.MinInt, 2, api.ErrArg},
		{512, math.MaxInt, 2, api.ErrArg},
		{512, math.MaxInt - 33, 2, api.ErrArg},
		{512, 0, math.MaxInt, api.ErrArg},
		{512, 0, math.MinInt, api.ErrArg},
		{512, 0, 1 << 60, api.ErrArg},
		{512, 0, 1<<60 + 2, api.ErrArg},
		{512, 0, 1<<32 + 2, api.ErrArg},
	} {
		d := mustDisk(t, at.size)
		l, fault := evlog.Open(d, at.base, at.segs)
		wantErr(t, "Open", fault, at.want)
		if (l != nil) != (fault == api.OK) {
			t.Fatalf("a log %v beside error %d", l, fault)
		}
		if d.Waits() != 0 {
			t.Fatal("Open of a new disk writes")
		}
		if fault == api.OK {
			wantLog(t, l, 0, 0, 0)
			wantTicks(t, l)
		}
	}
}

// P11.1, P2: the errors in their order.
func TestOpenErrorsInOrder(t *testing.T) {
	for _, segs := range []int{0, 2} {
		if l, fault := evlog.Open(nil, -1, segs); fault != api.ErrNil || l != nil {
			t.Fatalf("of no disk: error %d", fault)
		}
	}
	d := mustDisk(t, 34)
	takeDown(t, d)
	for _, base := range []int{-1, 0, 1} {
		if l, fault := evlog.Open(d, base, 2); fault != api.ErrDown || l != nil {
			t.Fatalf("of a disk that is down: error %d", fault)
		}
	}
	wantErr(t, "Crash", d.Crash(nil), api.OK)
	mustOpen(t, d, 0, 2)
}

// P11.2: the document's example, at a base of its own.
func TestExample(t *testing.T) {
	d := mustDisk(t, 60)
	l := mustOpen(t, d, 7, 3)
	mustAppend(t, l, 5, "ab")
	wantSector(t, d, 9, headOf(1, 0))
	record := append([]byte("\xe7\x02\x0a\x01\x80\x00\x00\x00\x00\x00\x00\x05ab"), make([]byte, 50)...)
	record[63] = 0xe7
	wantSector(t, d, 10, record)
	for i := range d.Size() {
		if i != 9 && i != 10 {
			wantSector(t, d, i, make([]byte, api.Sector))
		}
	}
	if d.Waits() != 2 {
		t.Fatalf("%d writes wait", d.Waits())
	}
	wantLog(t, l, 5, 0, 1)
}

// P11.2: how a record is cut, at all lengths that it may have.
func TestParts(t *testing.T) {
	for n := range api.MaxRec + 1 {
		d, l := fresh(t, 2)
		body := text(n)
		mustAppend(t, l, api.MaxTick, body)
		all := append(octet.Key(api.MaxTick), body...)
		at := 3
		for kind := byte(2); len(all) > 59; kind = 3 {
			wantSector(t, d, at, laid(kind, 0, all[:59]...))
			all = all[59:]
			at++
		}
		kind := byte(3)
		if at == 3 {
			kind = 2
		}
		wantSector(t, d, at, laid(kind, 1, all...))
		wantSector(t, d, at+1, make([]byte, api.Sector))
		mustSync(t, l)
		want := []api.Rec{{Tick: api.MaxTick, Body: []byte(body)}}
		if again := mustOpen(t, d, 0, 2); !sameRecs(again.Events(0, api.MaxTick), want) || !sameRecs(l.Events(0, api.MaxTick), want) {
			t.Fatalf("a body of %d bytes is not read as it was", n)
		}
	}
}

// P11.2: what is wrong, in the order of the errors; nothing changes by it.
func TestAppendErrors(t *testing.T) {
	d, l := fresh(t, 2)
	mustAppend(t, l, 10, "x")
	long := make([]byte, api.MaxRec+1)
	refuse := func(tick int, body []byte, want api.Errno) {
		t.Helper()
		waits := d.Waits()
		wantErr(t, "Append", l.Append(tick, body), want)
		wantLog(t, l, 10, 0, 1)
		wantTicks(t, l, 10)
		if d.Waits() != waits {
			t.Fatal("a refused record is written")
		}
	}
	for _, tick := range []int{10, 9, 1, 0, -1, math.MinInt, api.MaxTick + 1, math.MaxInt} {
		refuse(tick, nil, api.ErrTick)
		refuse(tick, long, api.ErrLimit)
	}
	refuse(11, long, api.ErrLimit)
	takeDown(t, d)
	refuse(11, nil, api.ErrDown)
	refuse(10, long, api.ErrDown)
	wantErr(t, "Crash", d.Crash(nil), api.OK)
	refuse(11, nil, api.ErrStale)
	refuse(10, long, api.ErrStale)
	takeDown(t, d)
	refuse(10, long, api.ErrStale)
}

// P11.2: a tick of 0 is none; the greatest one is the last.
func TestTickEdges(t *testing.T) {
	_, l := fresh(t, 2)
	wantErr(t, "Append", l.Append(0, nil), api.ErrTick)
	mustAppend(t, l, 1, "")
	mustAppend(t, l, api.MaxTick, "")
	wantErr(t, "Append", l.Append(api.MaxTick, nil), api.ErrTick)
	wantErr(t, "Append", l.Append(api.MaxTick+1, nil), api.ErrTick)
	wantTicks(t, l, 1, api.MaxTick)
}

// fill appends records of one sector until the last segment has no more room.
func fill(t *testing.T, l *evlog.Log, from int) int {
	t.Helper()
	for tick := from; ; tick++ {
		mustAppend(t, l, tick, "r")
		if (tick-from)%15 == 14 {
			return tick
		}
	}
}

// P11.2: a segment is begun where the last one has too few sectors left, the first one that is not used.
func TestBegin(t *testing.T) {
	d, l := fresh(t, 3)
	// Old records, and bytes of no form, in a segment that is not used.
	set(t, d, 19, recOf(3, "old"))
	set(t, d, 33, []byte("junk"))
	fill(t, l, 1)
	wantLog(t, l, 15, 0, 1)
	waits := d.Waits()
	if waits != 16 {
		t.Fatalf("%d writes wait", waits)
	}
	mustAppend(t, l, 20, "next")
	wantLog(t, l, 20, 0, 2)
	if d.Waits() != 2 {
		t.Fatalf("%d writes wait behind the sync", d.Waits())
	}
	wantSector(t, d, 18, headOf(2, 15))
	wantSector(t, d, 19, recOf(20, "next"))
	for i := 20; i < 34; i++ {
		wantSector(t, d, i, make([]byte, api.Sector))
	}
	// All but the head and the record is sure.
	if b, _ := d.Sure(19); !bytes.Equal(b, make([]byte, api.Sector)) {
		t.Fatalf("an old record is sure: % x", b)
	}
	if b, _ := d.Sure(17); !bytes.Equal(b, recOf(15, "r")) {
		t.Fatalf("the record ahead is not sure: % x", b)
	}
}

// P11.2: the room that a record needs: seven sectors for the longest one.
func TestRoom(t *testing.T) {
	for ones := 6; ones <= 10; ones++ {
		_, l := fresh(t, 2)
		for tick := 1; tick <= ones; tick++ {
			mustAppend(t, l, tick, "")
		}
		mustAppend(t, l, 100, text(api.MaxRec))
		want := 1
		if 15-ones < 7 {
			want = 2
		}
		wantLog(t, l, 100, 0, want)
	}
}

// P11.2: all are used: ErrFull, and nothing is written; a record that still fits is taken.
func TestFull(t *testing.T) {
	d, l := fresh(t, 2)
	last := fill(t, l, 1)
	for tick := last + 1; tick <= last+14; tick++ {
		mustAppend(t, l, tick, "r")
	}
	mustSync(t, l)
	wantErr(t, "Append", l.Append(50, make([]byte, 52)), api.ErrFull)
	wantErr(t, "Append", l.Append(50, make([]byte, api.MaxRec+1)), api.ErrLimit)
	wantErr(t, "Append", l.Append(29, make([]byte, 52)), api.ErrTick)
	wantLog(t, l, 29, 0, 2)
	if d.Waits() != 0 {
		t.Fatal("a record is written that has no room")
	}
	mustAppend(t, l, 50, text(51))
	wantErr(t, "Append", l.Append(51, nil), api.ErrFull)
	mustChop(t, l, 15)
	mustAppend(t, l, 51, "room again")
	wantLog(t, l, 51, 15, 2)
	wantSector(t, d, 2, headOf(3, 50))
}

// P11.2: a number above 2^62: ErrFull goes ahead of it, and a record that fits needs none.
func TestNumbersEnd(t *testing.T) {
	d := mustDisk(t, 34)
	set(t, d, 2, headOf(top-1, 0))
	l := mustOpen(t, d, 0, 2)
	fill(t, l, 1)
	mustAppend(t, l, 16, "r")
	wantSector(t, d, 18, headOf(top, 15))
	wantErr(t, "Append", l.Append(17, make([]byte, api.MaxRec+1)), api.ErrLimit)
	fillRest := func() {
		for tick := 17; tick <= 30; tick++ {
			mustAppend(t, l, tick, "r")
		}
	}
	fillRest()
	wantErr(t, "Append", l.Append(31, nil), api.ErrFull)
	mustChop(t, l, 15)
	wantLog(t, l, 30, 15, 1)
	mustSync(t, l)
	wantErr(t, "Append", l.Append(31, nil), api.ErrLimit)
	wantErr(t, "Append", l.Append(30, nil), api.ErrTick)
	wantLog(t, l, 30, 15, 1)
	if d.Waits() != 0 {
		t.Fatal("a record is written that has no segment")
	}
}

// P11.2: Sync tells the disk's error.
func TestSync(t *testing.T) {
	d, l := fresh(t, 2)
	mustAppend(t, l, 4, "x")
	mustSync(t, l)
	if d.Waits() != 0 {
		t.Fatal("writes wait behind a Sync")
	}
	wantErr(t, "Trip", d.Trip(1), api.OK)
	wantErr(t, "Sync", l.Sync(), api.ErrDown)
	wantErr(t, "Sync", l.Sync(), api.ErrDown)
	wantErr(t, "Crash", d.Crash(nil), api.OK)
	wantErr(t, "Sync", l.Sync(), api.ErrStale)
	wantLog(t, l, 4, 0, 1)
}

// P11.3: what is wrong, and what is released already.
func TestChopErrors(t *testing.T) {
	d, l := fresh(t, 2)
	wantErr(t, "Chop", l.Chop(1), api.ErrArg)
	mustChop(t, l, 0)
	mustAppend(t, l, 5, "x")
	mustAppend(t, l, 9, "y")
	for _, tick := range []int{-1, 10, math.MinInt, math.MaxInt, api.MaxTick} {
		wantErr(t, "Chop", l.Chop(tick), api.ErrArg)
	}
	mustChop(t, l, 7)
	wantLog(t, l, 9, 7, 1)
	wantTicks(t, l, 9)
	wantErr(t, "Trip", d.Trip(1), api.OK)
	for tick := range 8 {
		mustChop(t, l, tick)
	}
	wantLog(t, l, 9, 7, 1)
	wantErr(t, "Chop", l.Chop(9), api.ErrDown)
	for _, tick := range []int{-1, 0, 9, 10} {
		wantErr(t, "Chop", l.Chop(tick), api.ErrDown)
	}
	wantLog(t, l, 9, 7, 1)
	wantTicks(t, l, 9)
	wantErr(t, "Crash", d.Crash(nil), api.OK)
	for _, tick := range []int{-1, 0, 9, 10} {
		wantErr(t, "Chop", l.Chop(tick), api.ErrStale)
	}
	wantLog(t, l, 9, 7, 1)
}

// P11.3: the cell is put, and the heads of what is released are emptied, but for the last one.
func TestChop(t *testing.T) {
	d, l := fresh(t, 4)
	for k := range 3 {
		fill(t, l, 15*k+1)
	}
	wantLog(t, l, 45, 0, 3)
	mustChop(t, l, 14)
	wantLog(t, l, 45, 14, 3)
	c, _ := mark.Open(d, 0, 1)
	if v, ok := c.Get(0); !ok || v != 14 || d.Waits() != 0 {
		t.Fatalf("the cell: %d, %v; %d writes wait", v, ok, d.Waits())
	}
	mustChop(t, l, 30)
	wantLog(t, l, 45, 30, 1)
	if d.Waits() != 0 {
		t.Fatal("writes wait behind a Chop")
	}
	wantSector(t, d, 2, make([]byte, api.Sector))
	wantSector(t, d, 18, make([]byte, api.Sector))
	wantSector(t, d, 34, headOf(3, 30))
	// What is behind the heads is left for whoever begins there.
	wantSector(t, d, 3, recOf(1, "r"))
	mustChop(t, l, 45)
	wantLog(t, l, 45, 45, 1)
	wantTicks(t, l)
	mustAppend(t, l, 46, "a")
	wantSector(t, d, 2, headOf(4, 45))
	wantSector(t, d, 4, make([]byte, api.Sector))
	// The one that was the last is used until something more is released.
	wantLog(t, l, 46, 45, 2)
	mustChop(t, l, 45)
	wantLog(t, l, 46, 45, 2)
	mustChop(t, l, 46)
	wantLog(t, l, 46, 46, 1)
}

// P11.3: a cell that has no number left: nothing is released.
func TestChopWithoutNumbers(t *testing.T) {
	d, l := fresh(t, 2)
	mustAppend(t, l, 5, "x")
	mustSync(t, l)
	set(t, d, 0, slices.Concat([]byte{9}, octet.Key(top), octet.Key(1), make([]byte, 46), []byte{9}))
	wantErr(t, "Chop", l.Chop(5), api.ErrLimit)
	wantLog(t, l, 5, 0, 1)
	wantTicks(t, l, 5)
}

// P11.4
func TestEvents(t *testing.T) {
	_, l := fresh(t, 2)
	for _, tick := range []int{3, 5, 8, 13} {
		mustAppend(t, l, tick, text(tick))
	}
	for _, at := range []struct {
		from, to int
		want     []int
	}{
		{3, 13, []int{3, 5, 8, 13}},
		{4, 12, []int{5, 8}},
		{5, 8, []int{5, 8}},
		{6, 7, nil},
		{8, 8, []int{8}},
		{8, 5, nil},
		{14, 99, nil},
		{0, 2, nil},
		{math.MinInt, math.MaxInt, []int{3, 5, 8, 13}},
		{math.MaxInt, math.MinInt, nil},
		{math.MinInt, 3, []int{3}},
		{13, math.MaxInt, []int{13}},
	} {
		var want []api.Rec
		for _, tick := range at.want {
			want = append(want, api.Rec{Tick: tick, Body: []byte(text(tick))})
		}
		if got := l.Events(at.from, at.to); !sameRecs(got, want) {
			t.Fatalf("Events(%d, %d): %v", at.from, at.to, got)
		}
	}
	mustChop(t, l, 6)
	wantTicks(t, l, 8, 13)
	if got := l.Events(3, 7); len(got) != 0 {
		t.Fatalf("what is released is told: %v", got)
	}
	mustChop(t, l, 8)
	wantTicks(t, l, 13)
}

// P11.4: of a stale log, or one whose disk is down, as it was.
func TestAsItWas(t *testing.T) {
	d, l := fresh(t, 3)
	fill(t, l, 1)
	mustAppend(t, l, 30, "last")
	mustChop(t, l, 4)
	mustAppend(t, l, 31, "lost")
	was := l.Events(0, 99)
	if len(was) != 13 {
		t.Fatalf("%d records", len(was))
	}
	hold := func() {
		t.Helper()
		wantLog(t, l, 31, 4, 2)
		if !sameRecs(l.Events(0, 99), was) {
			t.Fatalf("records %v", l.Events(0, 99))
		}
	}
	takeDown(t, d)
	hold()
	wantErr(t, "Append", l.Append(40, nil), api.ErrDown)
	hold()
	wantErr(t, "Crash", d.Crash(nil), api.OK)
	hold()
	for i := range d.Size() {
		set(t, d, i, []byte("gone"))
	}
	hold()
	wantErr(t, "Append", l.Append(40, nil), api.ErrStale)
	wantErr(t, "Chop", l.Chop(31), api.ErrStale)
	hold()
}

// P11.4: a call that the disk breaks off changes nothing of what the log tells, wherever it trips.
func TestBrokenOff(t *testing.T) {
	d, l := fresh(t, 4)
	fill(t, l, 1)
	fill(t, l, 16)
	mustSync(t, l)
	for name, call := range map[string]func(l *evlog.Log) api.Errno{
		"Append": func(l *evlog.Log) api.Errno { return l.Append(50, make([]byte, 300)) },
		"Chop":   func(l *evlog.Log) api.Errno { return l.Chop(20) },
	} {
		for trip := 1; ; trip++ {
			f := d.Fork()
			l := mustOpen(t, f, 0, 4)
			wantErr(t, "Trip", f.Trip(trip), api.OK)
			if fault := call(l); fault == api.OK {
				// Append: a sync, a head, six parts. Chop: a cell's write and sync, a head, a sync.
				if steps := map[string]int{"Append": 8, "Chop": 4}[name]; trip != steps+1 {
					t.Fatalf("%s has %d steps, wanted %d", name, trip-1, steps)
				}
				break
			} else if fault != api.ErrDown {
				t.Fatalf("%s: error %d", name, fault)
			}
			wantLog(t, l, 30, 0, 2)
			if n := len(l.Events(0, 99)); n != 30 {
				t.Fatalf("%s: %d records", name, n)
			}
		}
	}
}

// P1: of nil.
func TestNil(t *testing.T) {
	var l *evlog.Log
	wantErr(t, "Append", l.Append(1, nil), api.ErrNil)
	wantErr(t, "Append", l.Append(-1, make([]byte, 999)), api.ErrNil)
	wantErr(t, "Sync", l.Sync(), api.ErrNil)
	wantErr(t, "Chop", l.Chop(0), api.ErrNil)
	wantErr(t, "Chop", l.Chop(-1), api.ErrNil)
	wantLog(t, l, 0, 0, 0)
	if got := l.Events(0, 99); len(got) != 0 {
		t.Fatalf("records of nil: %v", got)
	}
}

// P1: a log that no call made does not panic.
func TestMadeByNobody(t *testing.T) {
	l := &evlog.Log{}
	l.Append(1, nil)
	l.Append(1, make([]byte, api.MaxRec+1))
	l.Sync()
	l.Chop(0)
	l.Chop(1)
	l.Events(0, 9)
	wantLog(t, l, 0, 0, 0)
}

// P3: what is handed in stays and is not kept; what is answered is new memory.
func TestMemory(t *testing.T) {
	d, l := fresh(t, 2)
	whole := []byte(text(120))
	before := bytes.Clone(whole)
	mustAppendBytes := func(tick int, b []byte) {
		t.Helper()
		wantErr(t, "Append", l.Append(tick, b), api.OK)
	}
	mustAppendBytes(5, whole[:70])
	mustAppendBytes(6, whole[:0])
	if !bytes.Equal(whole, before) {
		t.Fatal("bytes that were handed in are changed")
	}
	clear(whole)
	want := []api.Rec{{Tick: 5, Body: before[:70]}, {Tick: 6}}
	first, second := l.Events(0, 9), l.Events(0, 9)
	if !sameRecs(first, want) {
		t.Fatalf("a body is kept as it was handed in: %v", first)
	}
	first[0].Body = append(first[0].Body, "spilt"...)
	clear(first[0].Body)
	first[1].Body = append(first[1].Body, "spilt"...)
	clear(first)
	if !sameRecs(second, want) || !sameRecs(l.Events(0, 9), want) {
		t.Fatal("an answer lies in another one, or in what is kept")
	}
	mustSync(t, l)
	again := mustOpen(t, d, 0, 2)
	got := again.Events(0, 9)
	got[0].Body = append(got[0].Body, "spilt"...)
	clear(got[0].Body)
	if !sameRecs(again.Events(0, 9), want) {
		t.Fatal("an answer of a log that was read lies in what is kept")
	}
}

// P11.1, P11.3: only its own sectors are written.
func TestBeside(t *testing.T) {
	d := mustDisk(t, 3+34+3)
	for _, i := range []int{0, 1, 2, 37, 38, 39} {
		set(t, d, i, recOf(1, "beside"))
	}
	l := mustOpen(t, d, 3, 2)
	for tick := 1; tick < 200; tick++ {
		if l.Append(tick, make([]byte, tick)) == api.ErrFull {
			mustChop(t, l, l.High())
		}
		if tick%7 == 0 {
			wantErr(t, "Crash", d.Crash([]int{1, 1, 0, 1}), api.OK)
			l = mustOpen(t, d, 3, 2)
		}
	}
	for _, i := range []int{0, 1, 2, 37, 38, 39} {
		wantSector(t, d, i, recOf(1, "beside"))
	}
}
