package sector_test

import (
	"bytes"
	"math"
	"testing"

	"grapevine/api"
	"grapevine/sector"
)

func mustNew(t *testing.T, n int) *sector.Disk {
	t.Helper()
	d, fault := sector.New(n)
	if fault != api.OK || d == nil {
		t.Fatalf("New(%d): error %d", n, fault)
	}
	return d
}

func mustWrite(t *testing.T, d *sector.Disk, i int, text string) {
	t.Helper()
	wantErr(t, "Write", d.Write(i, []byte(text)), api.OK)
}

func mustSync(t *testing.T, d *sector.Disk) {
	t.Helper()
	wantErr(t, "Sync", d.Sync(), api.OK)
}

func mustCrash(t *testing.T, d *sector.Disk, fates ...int) {
	t.Helper()
	wantErr(t, "Crash", d.Crash(fates), api.OK)
}

func wantErr(t *testing.T, call string, got, want api.Errno) {
	t.Helper()
	if got != want {
		t.Fatalf("%s: error %d, wanted %d", call, got, want)
	}
}

// full is a sector's bytes: a text, and bytes 0 behind it.
func full(text string) []byte {
	return append([]byte(text), make([]byte, api.Sector-len(text))...)
}

func wantRead(t *testing.T, d *sector.Disk, i int, text string) {
	t.Helper()
	if b, fault := d.Read(i); fault != api.OK || !bytes.Equal(b, full(text)) {
		t.Fatalf("Read(%d): %q, error %d, wanted %q", i, b, fault, text)
	}
}

func wantSure(t *testing.T, d *sector.Disk, i int, text string) {
	t.Helper()
	if b, fault := d.Sure(i); fault != api.OK || !bytes.Equal(b, full(text)) {
		t.Fatalf("Sure(%d): %q, error %d, wanted %q", i, b, fault, text)
	}
}

func wantWaits(t *testing.T, d *sector.Disk, want int) {
	t.Helper()
	if got := d.Waits(); got != want {
		t.Fatalf("%d writes wait, wanted %d", got, want)
	}
}

// noRead and noSure: beside an error there are no bytes.
func noRead(t *testing.T, d *sector.Disk, i int, want api.Errno) {
	t.Helper()
	b, fault := d.Read(i)
	wantErr(t, "Read", fault, want)
	if len(b) != 0 {
		t.Fatalf("Read(%d): %q beside error %d", i, b, fault)
	}
}

func noSure(t *testing.T, d *sector.Disk, i int, want api.Errno) {
	t.Helper()
	b, fault := d.Sure(i)
	wantErr(t, "Sure", fault, want)
	if len(b) != 0 {
		t.Fatalf("Sure(%d): %q beside error %d", i, b, fault)
	}
}

// downed is a disk of three sectors that is down: the first one is sure, and a write of the second one waits.
func downed(t *testing.T) *sector.Disk {
	t.Helper()
	d := mustNew(t, 3)
	mustWrite(t, d, 0, "sure")
	mustSync(t, d)
	mustWrite(t, d, 1, "waits")
	wantErr(t, "Trip", d.Trip(1), api.OK)
	wantErr(t, "Write", d.Write(2, []byte("trips")), api.ErrDown)
	if !d.Down() {
		t.Fatal("it is not down")
	}
	return d
}

// others are numbers of sectors that a disk of three does not have.
var others = []int{-1, 3, 4, math.MinInt, math.MaxInt, 1 << 32, -1 << 32}

// P9.1
func TestNew(t *testing.T) {
	for _, n := range []int{0, -1, math.MinInt, api.MaxSectors + 1, math.MaxInt, 1<<32 + 1} {
		if d, fault := sector.New(n); fault != api.ErrArg || d != nil {
			t.Fatalf("New(%d): %v, error %d", n, d, fault)
		}
	}
	for _, n := range []int{1, 2, api.DiskSize, api.MaxSectors} {
		d := mustNew(t, n)
		if d.Size() != n || d.Waits() != 0 || d.Down() || d.Age() != 0 {
			t.Fatalf("of %d: %d sectors, %d writes, down %v, age %d", n, d.Size(), d.Waits(), d.Down(), d.Age())
		}
		for i := range n {
			wantRead(t, d, i, "")
			wantSure(t, d, i, "")
		}
		noRead(t, d, n, api.ErrArg)
		noSure(t, d, n, api.ErrArg)
		mustWrite(t, d, n-1, "last")
		wantRead(t, d, n-1, "last")
	}
}

// P9.1, P9.2: a write waits, is read, and is not sure until it is synced.
func TestWriteAndSync(t *testing.T) {
	d := mustNew(t, 3)
	mustWrite(t, d, 1, "one")
	mustWrite(t, d, 2, "two")
	wantWaits(t, d, 2)
	for i, text := range []string{"", "one", "two"} {
		wantRead(t, d, i, text)
		wantSure(t, d, i, "")
	}
	mustWrite(t, d, 1, "more")
	wantWaits(t, d, 3)
	wantRead(t, d, 1, "more")
	mustSync(t, d)
	wantWaits(t, d, 0)
	for i, text := range []string{"", "more", "two"} {
		wantRead(t, d, i, text)
		wantSure(t, d, i, text)
	}
	mustWrite(t, d, 1, "again")
	wantRead(t, d, 1, "again")
	wantSure(t, d, 1, "more")
	mustSync(t, d)
	mustSync(t, d)
	wantSure(t, d, 1, "again")
	if d.Age() != 0 || d.Size() != 3 {
		t.Fatal("a Sync is no Crash")
	}
}

// P9.1: behind what is written stand bytes 0, whatever stood there.
func TestWriteIsOfAWholeSector(t *testing.T) {
	whole := string(bytes.Repeat([]byte{0xff}, api.Sector))
	for n := range api.Sector + 1 {
		d := mustNew(t, 2)
		mustWrite(t, d, 0, whole)
		mustWrite(t, d, 0, whole[:n])
		wantRead(t, d, 0, whole[:n])
		mustSync(t, d)
		wantSure(t, d, 0, whole[:n])
		mustWrite(t, d, 0, whole)
		mustSync(t, d)
		mustWrite(t, d, 0, whole[:n])
		wantRead(t, d, 0, whole[:n])
		wantSure(t, d, 0, whole)
		mustCrash(t, d, 1)
		wantSure(t, d, 0, whole[:n])
		wantSure(t, d, 1, "")
	}
	d := mustNew(t, 1)
	mustWrite(t, d, 0, whole)
	wantErr(t, "Write of nil", d.Write(0, nil), api.OK)
	wantWaits(t, d, 2)
	wantRead(t, d, 0, "")
}

// P9.1: wrong arguments, and which error goes first; nothing waits by them.
func TestWriteFaults(t *testing.T) {
	d := mustNew(t, 3)
	for _, i := range others {
		wantErr(t, "Write", d.Write(i, nil), api.ErrArg)
		wantErr(t, "Write of too much", d.Write(i, make([]byte, api.Sector+1)), api.ErrArg)
	}
	for _, n := range []int{api.Sector + 1, api.Sector * 2, 1 << 20} {
		wantErr(t, "Write", d.Write(0, make([]byte, n)), api.ErrLimit)
	}
	wantWaits(t, d, 0)
	wantErr(t, "Write", d.Write(0, make([]byte, api.Sector)), api.OK)
	wantErr(t, "Write", d.Write(2, nil), api.OK)
	wantWaits(t, d, 2)
}

// P9.2: wrong arguments.
func TestReadFaults(t *testing.T) {
	d := mustNew(t, 3)
	for _, i := range others {
		noRead(t, d, i, api.ErrArg)
		noSure(t, d, i, api.ErrArg)
	}
}

// A disk that is down does nothing but crash; what is sure is told all the same.
func TestDown(t *testing.T) {
	d := downed(t)
	for _, i := range append([]int{0, 1, 2}, others...) {
		wantErr(t, "Write", d.Write(i, nil), api.ErrDown)
		wantErr(t, "Write of too much", d.Write(i, make([]byte, api.Sector+1)), api.ErrDown)
		noRead(t, d, i, api.ErrDown)
		wantErr(t, "Trip", d.Trip(i), api.ErrDown)
	}
	wantErr(t, "Sync", d.Sync(), api.ErrDown)
	for i, text := range []string{"sure", "", ""} {
		wantSure(t, d, i, text)
	}
	for _, i := range others {
		noSure(t, d, i, api.ErrArg)
	}
	wantWaits(t, d, 1)
	if d.Size() != 3 || d.Age() != 0 || !d.Down() {
		t.Fatalf("%d sectors, age %d, down %v", d.Size(), d.Age(), d.Down())
	}
	mustCrash(t, d, 1)
	if d.Down() || d.Age() != 1 {
		t.Fatalf("down %v, age %d", d.Down(), d.Age())
	}
	for i, text := range []string{"sure", "waits", ""} {
		wantRead(t, d, i, text)
		wantSure(t, d, i, text)
	}
	mustWrite(t, d, 2, "on")
	mustSync(t, d)
	wantSure(t, d, 2, "on")
}

// P9.3: the n-th one trips, be it a Write or a Sync, and what it would have done is not.
func TestTrip(t *testing.T) {
	for n := 1; n <= 7; n++ {
		d := mustNew(t, 7)
		wantErr(t, "Trip", d.Trip(n), api.OK)
		for k := 1; k < n; k++ {
			if k%3 == 0 {
				mustSync(t, d)
			} else {
				mustWrite(t, d, k, "done")
			}
			if d.Down() {
				t.Fatalf("Trip(%d): down at the step %d", n, k)
			}
		}
		waits := d.Waits()
		if n%3 == 0 {
			wantErr(t, "Sync", d.Sync(), api.ErrDown)
		} else {
			wantErr(t, "Write", d.Write(0, []byte("trips")), api.ErrDown)
		}
		if !d.Down() {
			t.Fatalf("Trip(%d): not down", n)
		}
		wantWaits(t, d, waits)
		mustCrash(t, d, 1, 1, 1, 1, 1, 1, 1)
		wantRead(t, d, 0, "")
		for k := 1; k < n; k++ {
			if k%3 != 0 {
				wantRead(t, d, k, "done")
			}
		}
	}
}

// P9.3: a Sync that trips does nothing: what waits waits for its fate.
func TestTripOfSync(t *testing.T) {
	d := mustNew(t, 2)
	mustWrite(t, d, 0, "a")
	mustWrite(t, d, 1, "b")
	wantErr(t, "Trip", d.Trip(1), api.OK)
	wantErr(t, "Sync", d.Sync(), api.ErrDown)
	wantWaits(t, d, 2)
	wantSure(t, d, 0, "")
	mustCrash(t, d, 0, 1)
	wantRead(t, d, 0, "")
	wantRead(t, d, 1, "b")
}

// P9.3: those that would not be done do not count, nor do other calls.
func TestTripCounts(t *testing.T) {
	d := mustNew(t, 3)
	wantErr(t, "Trip", d.Trip(2), api.OK)
	for _, i := range others {
		wantErr(t, "Write", d.Write(i, nil), api.ErrArg)
		noRead(t, d, i, api.ErrArg)
	}
	wantErr(t, "Write", d.Write(0, make([]byte, api.Sector+1)), api.ErrLimit)
	wantErr(t, "Trip", d.Trip(-1), api.ErrArg)
	wantRead(t, d, 0, "")
	wantSure(t, d, 0, "")
	d.Size()
	d.Waits()
	d.Age()
	d.Fork()
	mustSync(t, d)
	wantErr(t, "Write at the trip, of no sector", d.Write(3, nil), api.ErrArg)
	wantErr(t, "Write at the trip, of too much", d.Write(0, make([]byte, api.Sector+1)), api.ErrLimit)
	if d.Down() {
		t.Fatal("what would not be done trips")
	}
	wantErr(t, "Sync", d.Sync(), api.ErrDown)
}

// P9.3: 0 takes it back, another number stands in its stead, one that may not be changes nothing, the greatest one is far off.
func TestTripAnew(t *testing.T) {
	d := mustNew(t, 1)
	wantErr(t, "Trip", d.Trip(1), api.OK)
	wantErr(t, "Trip", d.Trip(0), api.OK)
	mustWrite(t, d, 0, "a")
	mustSync(t, d)
	wantErr(t, "Trip", d.Trip(1), api.OK)
	wantErr(t, "Trip", d.Trip(math.MaxInt), api.OK)
	for range 10 {
		mustWrite(t, d, 0, "b")
		mustSync(t, d)
	}
	wantErr(t, "Trip", d.Trip(3), api.OK)
	mustSync(t, d)
	wantErr(t, "Trip", d.Trip(2), api.OK)
	for _, n := range []int{-1, -3, math.MinInt} {
		wantErr(t, "Trip", d.Trip(n), api.ErrArg)
	}
	mustSync(t, d)
	wantErr(t, "Sync", d.Sync(), api.ErrDown)
}

// P9.4: behind a Crash it trips no longer.
func TestCrashEndsTrip(t *testing.T) {
	d := mustNew(t, 1)
	wantErr(t, "Trip", d.Trip(1), api.OK)
	mustCrash(t, d)
	mustWrite(t, d, 0, "a")
	mustSync(t, d)
	wantErr(t, "Trip", d.Trip(1), api.OK)
	wantErr(t, "Sync", d.Sync(), api.ErrDown)
	mustCrash(t, d)
	for range 5 {
		mustSync(t, d)
	}
	if d.Down() || d.Age() != 2 {
		t.Fatalf("down %v, age %d", d.Down(), d.Age())
	}
}

// P9.4: each rest by 3, and each place at which a write is torn, with fates that go beyond the sector too.
func TestFates(t *testing.T) {
	before := string(bytes.Repeat([]byte{'o'}, api.Sector))
	after := string(bytes.Repeat([]byte{'n'}, api.Sector-4)) + "\x00\x00\x00\x00"
	for q := range 3 * api.Sector {
		for r, cut := range []int{0, api.Sector, q % api.Sector} {
			d := mustNew(t, 2)
			mustWrite(t, d, 1, before)
			mustSync(t, d)
			mustWrite(t, d, 1, after[:api.Sector-4])
			mustCrash(t, d, 3*q+r)
			wantWaits(t, d, 0)
			wantRead(t, d, 1, after[:cut]+before[cut:])
			wantSure(t, d, 1, after[:cut]+before[cut:])
			wantRead(t, d, 0, "")
		}
	}
}

// P9.4: a fate counts as 64 bits without a sign.
func TestFatesBelowZero(t *testing.T) {
	text := string(bytes.Repeat([]byte{'n'}, api.Sector))
	for _, c := range []struct{ fate, cut int }{
		{-1, 0},
		{-2, 20},
		{-3, api.Sector},
		{-4, 0},
		{-5, 19},
		{-6, api.Sector},
		{-2 - 3*20, 0},
		{-2 - 3*21, 63},
		{math.MaxInt, api.Sector},
		{math.MaxInt - 1, 0},
		{math.MaxInt - 2, 41},
		{math.MinInt, 42},
		{math.MinInt + 1, 0},
		{math.MinInt + 2, api.Sector},
		{math.MinInt + 3, 43},
		{math.MinInt + 63, 63},
		{math.MinInt + 66, 0},
	} {
		d := mustNew(t, 1)
		mustWrite(t, d, 0, text)
		mustCrash(t, d, c.fate)
		wantRead(t, d, 0, text[:c.cut])
	}
}

// P9.4: each write has its own fate, in the writes' order; what has none is not done, and fates of no write count for nothing.
func TestFatesInOrder(t *testing.T) {
	for _, c := range []struct {
		fates []int
		want  [3]string
	}{
		{nil, [3]string{}},
		{[]int{}, [3]string{}},
		{[]int{1}, [3]string{"abcdef"}},
		{[]int{0, 1}, [3]string{"", "ghijkl"}},
		{[]int{0, 0, 1}, [3]string{"ABCDEF"}},
		{[]int{1, 1, 0}, [3]string{"abcdef", "ghijkl"}},
		{[]int{1, 1, 1}, [3]string{"ABCDEF", "ghijkl"}},
		{[]int{1, 0, 2 + 3*2}, [3]string{"ABcdef"}},
		{[]int{2 + 3*4, 2 + 3*1, 2 + 3*2}, [3]string{"ABcd", "g"}},
		{[]int{2 + 3*2, 2 + 3*0, 2 + 3*4}, [3]string{"ABCD"}},
		{[]int{0, 0, 2 + 3*3, 1, 1, 1}, [3]string{"ABC"}},
	} {
		d := mustNew(t, 3)
		mustWrite(t, d, 0, "abcdef")
		mustWrite(t, d, 1, "ghijkl")
		mustWrite(t, d, 0, "ABCDEF")
		wantErr(t, "Crash", d.Crash(c.fates), api.OK)
		for i, text := range c.want {
			wantSure(t, d, i, text)
			wantRead(t, d, i, text)
		}
		wantWaits(t, d, 0)
	}
}

// P9.4: Age counts each Crash, down or not, and nothing else.
func TestAge(t *testing.T) {
	d := mustNew(t, 1)
	for n := range 5 {
		if d.Age() != n {
			t.Fatalf("age %d, wanted %d", d.Age(), n)
		}
		mustWrite(t, d, 0, "a")
		mustSync(t, d)
		if n%2 == 0 {
			wantErr(t, "Trip", d.Trip(1), api.OK)
			wantErr(t, "Sync", d.Sync(), api.ErrDown)
		}
		mustCrash(t, d)
	}
}

// P9.4, P4: a Fork is alike in all, and goes its own way.
func TestFork(t *testing.T) {
	d := downed(t)
	f := d.Fork()
	if f == d || !f.Down() || f.Size() != 3 || f.Age() != 0 {
		t.Fatal("it is not alike")
	}
	wantWaits(t, f, 1)
	mustCrash(t, f, 1)
	if !d.Down() || d.Age() != 0 || f.Down() || f.Age() != 1 {
		t.Fatal("the Fork's Crash is the disk's")
	}
	wantWaits(t, d, 1)
	wantSure(t, d, 1, "")
	wantSure(t, f, 1, "waits")
	mustCrash(t, d, 0)
	wantSure(t, d, 1, "")
	wantSure(t, f, 1, "waits")
	if g := f.Fork(); g.Age() != 1 || g.Down() {
		t.Fatal("the age, or that it is up, is not alike")
	}
}

// P4: writes that wait, those that are added, and trips are each one's own.
func TestForkGoesItsOwnWay(t *testing.T) {
	d := mustNew(t, 2)
	for range 3 {
		mustWrite(t, d, 0, "both")
	}
	wantErr(t, "Trip", d.Trip(2), api.OK)
	f := d.Fork()
	mustWrite(t, d, 0, "disk")
	mustWrite(t, f, 0, "fork")
	wantRead(t, d, 0, "disk")
	wantRead(t, f, 0, "fork")
	wantErr(t, "Sync", d.Sync(), api.ErrDown)
	if f.Down() {
		t.Fatal("the disk's trip is the Fork's")
	}
	wantErr(t, "Sync: the Fork trips as its disk would", f.Fork().Sync(), api.ErrDown)
	wantErr(t, "Trip", f.Trip(0), api.OK)
	mustSync(t, f)
	wantSure(t, f, 0, "fork")
	wantSure(t, d, 0, "")
	mustCrash(t, d, 0, 0, 0, 1)
	wantSure(t, d, 0, "disk")
	mustWrite(t, d, 1, "late")
	mustSync(t, d)
	wantRead(t, f, 1, "")
}

// The chapter's examples.
func TestExamples(t *testing.T) {
	d := mustNew(t, 1)
	mustWrite(t, d, 0, "ab")
	mustCrash(t, d, 2+3)
	wantRead(t, d, 0, "a")
	d = mustNew(t, 2)
	wantErr(t, "Trip", d.Trip(2), api.OK)
	mustWrite(t, d, 0, "first")
	wantErr(t, "Write", d.Write(1, []byte("second")), api.ErrDown)
	mustCrash(t, d)
	wantRead(t, d, 0, "")
	wantRead(t, d, 1, "")
}

// P3: what is handed in stays as it is, and is not kept.
func TestHandedIn(t *testing.T) {
	room := bytes.Repeat([]byte{7}, 2*api.Sector)
	d := mustNew(t, 1)
	wantErr(t, "Write", d.Write(0, room[:3]), api.OK)
	fates := []int{2 + 3*2, 9, 9}
	wantErr(t, "Crash", d.Fork().Crash(fates[:1]), api.OK)
	if !bytes.Equal(room, bytes.Repeat([]byte{7}, 2*api.Sector)) || fates[0] != 8 || fates[1] != 9 || fates[2] != 9 {
		t.Fatal("what was handed in is changed")
	}
	room[0] = 1
	wantRead(t, d, 0, "\x07\x07\x07")
	mustSync(t, d)
	room[1] = 1
	wantSure(t, d, 0, "\x07\x07\x07")
}

// P3: what is answered is new memory.
func TestAnsweredIsNew(t *testing.T) {
	d := mustNew(t, 2)
	mustWrite(t, d, 0, "a")
	mustSync(t, d)
	mustWrite(t, d, 1, "b")
	for range 2 {
		for i, text := range []string{"a", "b"} {
			b, _ := d.Read(i)
			again, _ := d.Read(i)
			clear(b)
			clear(append(b, 1, 2, 3))
			if !bytes.Equal(again, full(text)) {
				t.Fatal("two answers lie in one another")
			}
			wantRead(t, d, i, text)
		}
		b, _ := d.Sure(0)
		clear(b)
		wantSure(t, d, 0, "a")
		wantRead(t, d, 0, "a")
	}
	mustSync(t, d)
	wantSure(t, d, 1, "b")
}

// P1: a nil disk.
func TestNil(t *testing.T) {
	var d *sector.Disk
	for _, i := range []int{-1, 0, 1} {
		wantErr(t, "Write", d.Write(i, nil), api.ErrNil)
		wantErr(t, "Write", d.Write(i, make([]byte, api.Sector+1)), api.ErrNil)
		wantErr(t, "Trip", d.Trip(i), api.ErrNil)
		noRead(t, d, i, api.ErrNil)
		noSure(t, d, i, api.ErrNil)
	}
	wantErr(t, "Sync", d.Sync(), api.ErrNil)
	wantErr(t, "Crash", d.Crash(nil), api.ErrNil)
	wantErr(t, "Crash", d.Crash([]int{1}), api.ErrNil)
	if d.Size() != 0 || d.Waits() != 0 || d.Down() || d.Age() != 0 || d.Fork() != nil {
		t.Fatal("a nil disk tells something")
	}
}
