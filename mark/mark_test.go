package mark_test

import (
	"bytes"
	"math"
	"slices"
	"testing"

	"grapevine/api"
	"grapevine/mark"
	"grapevine/octet"
	"grapevine/sector"
)

const top = 1 << 62

func mustDisk(t *testing.T, n int) *sector.Disk {
	t.Helper()
	d, fault := sector.New(n)
	if fault != api.OK {
		t.Fatalf("New(%d): error %d", n, fault)
	}
	return d
}

func mustOpen(t *testing.T, d *sector.Disk, base, count int) *mark.Cells {
	t.Helper()
	c, fault := mark.Open(d, base, count)
	if fault != api.OK || c == nil {
		t.Fatalf("Open at %d of %d: error %d", base, count, fault)
	}
	return c
}

// one is a disk of two sectors, and its cell.
func one(t *testing.T) (*sector.Disk, *mark.Cells) {
	t.Helper()
	d := mustDisk(t, 2)
	return d, mustOpen(t, d, 0, 1)
}

func wantErr(t *testing.T, call string, got, want api.Errno) {
	t.Helper()
	if got != want {
		t.Fatalf("%s: error %d, wanted %d", call, got, want)
	}
}

func mustPut(t *testing.T, c *mark.Cells, i, v int) {
	t.Helper()
	wantErr(t, "Put", c.Put(i, v), api.OK)
}

func wantGet(t *testing.T, c *mark.Cells, i, want int) {
	t.Helper()
	if v, ok := c.Get(i); !ok || v != want {
		t.Fatalf("Get(%d): %d, %v, wanted %d", i, v, ok, want)
	}
}

func wantNone(t *testing.T, c *mark.Cells, i int) {
	t.Helper()
	if v, ok := c.Get(i); ok || v != 0 {
		t.Fatalf("Get(%d): %d, %v, wanted none", i, v, ok)
	}
}

// whole is a sector's bytes, made by hand.
func whole(ends byte, n, v int64) []byte {
	return slices.Concat([]byte{ends}, octet.Key(n), octet.Key(v), make([]byte, api.Sector-18), []byte{ends})
}

// lay has a sector last on a disk.
func lay(t *testing.T, d *sector.Disk, i int, b []byte) {
	t.Helper()
	wantErr(t, "Write", d.Write(i, b), api.OK)
	wantErr(t, "Sync", d.Sync(), api.OK)
}

func wantSector(t *testing.T, d *sector.Disk, i int, want []byte) {
	t.Helper()
	if b, fault := d.Sure(i); fault != api.OK || !bytes.Equal(b, want) {
		t.Fatalf("sector %d: % x, error %d, wanted % x", i, b, fault, want)
	}
}

// takeDown has a disk down.
func takeDown(t *testing.T, d *sector.Disk) {
	t.Helper()
	wantErr(t, "Trip", d.Trip(1), api.OK)
	wantErr(t, "Sync", d.Sync(), api.ErrDown)
}

// P10.1
func TestOpen(t *testing.T) {
	for _, at := range []struct {
		size, base, count int
		want              api.Errno
	}{
		{2, 0, 1, api.OK},
		{1, 0, 1, api.ErrArg},
		{2, 1, 1, api.ErrArg},
		{3, 1, 1, api.OK},
		{64, 0, 32, api.OK},
		{63, 0, 32, api.ErrArg},
		{64, 1, 32, api.ErrArg},
		{512, 448, 32, api.OK},
		{512, 449, 32, api.ErrArg},
		{512, 510, 1, api.OK},
		{512, 511, 1, api.ErrArg},
		{512, 512, 1, api.ErrArg},
		{512, 0, 33, api.ErrArg},
		{512, 0, 0, api.ErrArg},
		{512, 0, -1, api.ErrArg},
		{512, 4, -1, api.ErrArg},
		{512, -1, 1, api.ErrArg},
		{512, -2, 2, api.ErrArg},
		{512, math.MaxInt, 1, api.ErrArg},
		{512, math.MaxInt - 1, 1, api.ErrArg},
		{512, math.MaxInt, 32, api.ErrArg},
		{512, math.MinInt, 1, api.ErrArg},
		{512, 0, math.MaxInt, api.ErrArg},
		{512, 0, math.MinInt, api.ErrArg},
		{512, 0, 1 << 62, api.ErrArg},
		{512, 2, math.MaxInt/2 + 1, api.ErrArg},
	} {
		d := mustDisk(t, at.size)
		c, fault := mark.Open(d, at.base, at.count)
		wantErr(t, "Open", fault, at.want)
		if fault != api.OK && c != nil {
			t.Fatalf("cells beside error %d", fault)
		}
		if fault == api.OK && c.Count() != at.count {
			t.Fatalf("%d cells, wanted %d", c.Count(), at.count)
		}
		if d.Waits() != 0 {
			t.Fatal("Open writes")
		}
	}
	for _, base := range []int{0, -1} {
		if c, fault := mark.Open(nil, base, base); fault != api.ErrNil || c != nil {
			t.Fatalf("of no disk: %v, error %d", c, fault)
		}
	}
}

// P10.1: a disk that is down is no matter to Open; nothing can be read on it.
func TestDown(t *testing.T) {
	d := mustDisk(t, 4)
	mustPut(t, mustOpen(t, d, 0, 2), 1, 7)
	takeDown(t, d)
	c := mustOpen(t, d, 0, 2)
	if _, fault := mark.Open(d, 1, 2); fault != api.ErrArg {
		t.Fatalf("no room on a disk that is down: error %d", fault)
	}
	if c.Count() != 2 {
		t.Fatalf("%d cells", c.Count())
	}
	wantNone(t, c, 1)
	for _, i := range []int{0, 1, 2, -1} {
		wantErr(t, "Put", c.Put(i, 1), api.ErrDown)
		wantErr(t, "Put", c.Put(i, -1), api.ErrDown)
	}
	wantErr(t, "Crash", d.Crash(nil), api.OK)
	wantGet(t, c, 1, 7)
	mustPut(t, c, 1, 8)
	wantGet(t, c, 1, 8)
}

// P10.1: there are the cells from 0 on, and no others.
func TestWhichCells(t *testing.T) {
	d := mustDisk(t, 10)
	for i := range 10 {
		lay(t, d, i, whole(9, 1, int64(i)))
	}
	c := mustOpen(t, d, 3, 2)
	wantGet(t, c, 0, 3)
	wantGet(t, c, 1, 5)
	for _, i := range []int{-1, 2, 3, math.MinInt, math.MaxInt, 1 << 62, -1 << 62, 1<<63 - 2} {
		wantNone(t, c, i)
	}
}

// What is whole: each end of what may be, with the other sector empty, in either place.
func TestWhole(t *testing.T) {
	for _, at := range []struct {
		n, v int64
		ok   bool
	}{
		{1, 0, true},
		{1, api.MaxTick, true},
		{top, api.MaxTick, true},
		{top, 0, true},
		{77, 1 << 33, true},
		{0, 5, false},
		{-1, 5, false},
		{math.MinInt64, 5, false},
		{top + 1, 5, false},
		{math.MaxInt64, 5, false},
		{1, -1, false},
		{1, api.MaxTick + 1, false},
		{1, math.MaxInt64, false},
		{1, math.MinInt64, false},
	} {
		for place := range 2 {
			d, c := one(t)
			lay(t, d, place, whole(3, at.n, at.v))
			if at.ok {
				wantGet(t, c, 0, int(at.v))
			} else {
				wantNone(t, c, 0)
			}
		}
	}
}

// What is whole: the first byte is any one, and the last one; all between the value and that are 0.
func TestWholeBytes(t *testing.T) {
	d, c := one(t)
	for ends := range 256 {
		b := whole(byte(ends), 1, 8)
		lay(t, d, 0, b)
		wantGet(t, c, 0, 8)
		b[api.Sector-1]++
		lay(t, d, 0, b)
		wantNone(t, c, 0)
		b[api.Sector-1]--
		b[0] ^= 0x80
		lay(t, d, 0, b)
		wantNone(t, c, 0)
	}
	for k := 17; k < api.Sector-1; k++ {
		for bit := range 8 {
			b := whole(1, 1, 8)
			b[k] = 1 << bit
			lay(t, d, 0, b)
			wantNone(t, c, 0)
		}
	}
	for _, b := range [][]byte{nil, bytes.Repeat([]byte{0xff}, api.Sector), bytes.Repeat([]byte{0x80}, api.Sector)} {
		lay(t, d, 0, b)
		wantNone(t, c, 0)
	}
}

// The one that counts of two: of the greater number, of like ones the first one, however their values and ends are.
func TestWhichCounts(t *testing.T) {
	for _, at := range []struct{ first, second, want int64 }{
		{1, 2, 200},
		{2, 1, 100},
		{3, 3, 100},
		{top, 1, 100},
		{1, top, 200},
		{top, top, 100},
		{top, top - 1, 100},
		{255, 256, 200},
		{256, 255, 100},
		{0, 1, 200},
		{1, 0, 100},
		{top + 1, 1, 200},
		{1, top + 1, 100},
		{-5, 1, 200},
	} {
		for _, ends := range [][2]byte{{0, 0}, {1, 2}, {2, 1}, {255, 0}} {
			d, c := one(t)
			lay(t, d, 0, whole(ends[0], at.first, 100))
			lay(t, d, 1, whole(ends[1], at.second, 200))
			wantGet(t, c, 0, int(at.want))
		}
	}
	d, c := one(t)
	lay(t, d, 0, whole(1, 0, 100))
	lay(t, d, 1, whole(1, top+1, 200))
	wantNone(t, c, 0)
}

// The one that counts is that of what the disk reads, with the writes that wait.
func TestWhatWaitsIsRead(t *testing.T) {
	d, c := one(t)
	mustPut(t, c, 0, 5)
	wantErr(t, "Write", d.Write(1, whole(0, 2, 6)), api.OK)
	wantGet(t, c, 0, 6)
	mustPut(t, c, 0, 7)
	wantSector(t, d, 0, whole(2, 3, 7))
	wantSector(t, d, 1, whole(0, 2, 6))
	wantErr(t, "Write", d.Write(0, nil), api.OK)
	wantGet(t, c, 0, 6)
	wantErr(t, "Crash", d.Crash(nil), api.OK)
	wantGet(t, c, 0, 7)
}

// The chapter's example.
func TestExample(t *testing.T) {
	d := mustDisk(t, 6)
	mustPut(t, mustOpen(t, d, 3, 1), 0, 5)
	b := make([]byte, api.Sector)
	copy(b, "\x01\x80\x00\x00\x00\x00\x00\x00\x01\x80\x00\x00\x00\x00\x00\x00\x05")
	b[api.Sector-1] = 1
	wantSector(t, d, 3, b)
	for _, i := range []int{0, 1, 2, 4, 5} {
		wantSector(t, d, i, make([]byte, api.Sector))
	}
}

// P10.2: the sectors take turns, the number rises by one, and so do a sector's ends.
func TestPutTakesTurns(t *testing.T) {
	d, c := one(t)
	was := make([]byte, api.Sector)
	for n := 1; n <= 600; n++ {
		mustPut(t, c, 0, 1000-n)
		wantGet(t, c, 0, 1000-n)
		if d.Waits() != 0 {
			t.Fatal("it is not synced")
		}
		now := whole(byte((n+1)/2), int64(n), int64(1000-n))
		wantSector(t, d, (n-1)%2, now)
		wantSector(t, d, n%2, was)
		was = now
	}
}

// P10.2: whatever the sectors have, the one is written that does not count, the first one if none does.
func TestPutWhere(t *testing.T) {
	torn := whole(7, 9, 9)
	torn[api.Sector-1] = 6
	for _, at := range []struct {
		name          string
		first, second []byte
		place         int
		want          []byte
	}{
		{"both empty", nil, nil, 0, whole(1, 1, 5)},
		{"the first one whole", whole(3, 8, 1), nil, 1, whole(1, 9, 5)},
		{"the second one whole", nil, whole(3, 8, 1), 0, whole(1, 9, 5)},
		{"the first one newer", whole(3, 8, 1), whole(4, 7, 1), 1, whole(5, 9, 5)},
		{"the second one newer", whole(3, 8, 1), whole(4, 20, 1), 0, whole(4, 21, 5)},
		{"alike", whole(3, 8, 1), whole(255, 8, 2), 1, whole(0, 9, 5)},
		{"ends at 255", whole(255, 1, 1), whole(3, 8, 2), 0, whole(0, 9, 5)},
		{"the first one torn", torn, whole(3, 2, 2), 0, whole(7, 3, 5)},
		{"the second one torn", whole(3, 2, 2), torn, 1, whole(7, 3, 5)},
		{"both torn", torn, torn, 0, whole(7, 1, 5)},
		{"a number too great beside a whole one", whole(3, top+1, 1), whole(3, 2, 1), 0, whole(4, 3, 5)},
		{"numbers that may not be", whole(8, top+1, 1), whole(3, 0, 1), 0, whole(9, 1, 5)},
		{"a value that may not be", whole(3, 8, api.MaxTick+1), whole(3, 2, 1), 0, whole(4, 3, 5)},
		{"one below the top", whole(3, top-1, 1), whole(3, 2, 1), 1, whole(4, top, 5)},
	} {
		t.Run(at.name, func(t *testing.T) {
			d, c := one(t)
			lay(t, d, 0, at.first)
			lay(t, d, 1, at.second)
			other, _ := d.Sure(1 - at.place)
			mustPut(t, c, 0, 5)
			wantSector(t, d, at.place, at.want)
			wantSector(t, d, 1-at.place, other)
			wantGet(t, c, 0, 5)
		})
	}
}

// P10.2: no number is left; what was there stays.
func TestPutAtTheTop(t *testing.T) {
	for place := range 2 {
		for _, other := range [][]byte{nil, whole(9, 5, 5), whole(9, top, 5)} {
			d, c := one(t)
			lay(t, d, place, whole(3, top, 4))
			lay(t, d, 1-place, other)
			first, _ := d.Sure(0)
			second, _ := d.Sure(1)
			was, _ := c.Get(0)
			wantErr(t, "Trip", d.Trip(1), api.OK)
			wantErr(t, "Put", c.Put(0, 5), api.ErrLimit)
			wantErr(t, "Put of what may not be", c.Put(0, -1), api.ErrArg)
			wantSector(t, d, 0, first)
			wantSector(t, d, 1, second)
			wantGet(t, c, 0, was)
			if d.Waits() != 0 || d.Down() {
				t.Fatal("something was written")
			}
		}
	}
}

// P10.2: arguments at the ends of what may be, and beyond; nothing is written by the wrong ones.
func TestPutArguments(t *testing.T) {
	d := mustDisk(t, 8)
	c := mustOpen(t, d, 1, 3)
	wantErr(t, "Trip", d.Trip(1), api.OK)
	for _, i := range []int{-1, 3, 4, math.MinInt, math.MaxInt, 1 << 62, -1 << 62} {
		wantErr(t, "Put", c.Put(i, 5), api.ErrArg)
		wantErr(t, "Put", c.Put(i, -5), api.ErrArg)
	}
	for _, v := range []int{-1, api.MaxTick + 1, math.MinInt, math.MaxInt} {
		wantErr(t, "Put", c.Put(0, v), api.ErrArg)
	}
	if d.Waits() != 0 || d.Down() {
		t.Fatal("something was written")
	}
	wantErr(t, "Trip", d.Trip(0), api.OK)
	for i := range 3 {
		for _, v := range []int{0, 1, api.MaxTick, 0} {
			mustPut(t, c, i, v)
			wantGet(t, c, i, v)
		}
	}
	for _, i := range []int{0, 7} {
		wantSector(t, d, i, make([]byte, api.Sector))
	}
}

// P10.2: the error of the Write, or of the Sync; and what of it is there ahead of a Crash.
func TestPutTrips(t *testing.T) {
	for waits := range 2 {
		d, c := one(t)
		mustPut(t, c, 0, 5)
		wantErr(t, "Trip", d.Trip(waits+1), api.OK)
		wantErr(t, "Put", c.Put(0, 6), api.ErrDown)
		if d.Waits() != waits || !d.Down() {
			t.Fatalf("%d writes wait, wanted %d; down %v", d.Waits(), waits, d.Down())
		}
		wantNone(t, c, 0)
		wantSector(t, d, 1, make([]byte, api.Sector))
		wantErr(t, "Crash", d.Crash(nil), api.OK)
		wantGet(t, c, 0, 5)
	}
	d, c := one(t)
	wantErr(t, "Trip", d.Trip(3), api.OK)
	mustPut(t, c, 0, 5)
	wantErr(t, "Put", c.Put(0, 6), api.ErrDown)
	if !d.Down() {
		t.Fatal("a Put is a Write and a Sync")
	}
}

// Cells keep nothing of their own: others on the same disk tell the same.
func TestTwoOfOneDisk(t *testing.T) {
	d := mustDisk(t, 8)
	a, b := mustOpen(t, d, 0, 4), mustOpen(t, d, 2, 2)
	mustPut(t, a, 1, 11)
	wantGet(t, b, 0, 11)
	mustPut(t, b, 0, 12)
	wantGet(t, a, 1, 12)
	mustPut(t, b, 1, 13)
	wantGet(t, a, 2, 13)
	wantNone(t, a, 0)
	wantNone(t, a, 3)
	f := d.Fork()
	mustPut(t, a, 1, 14)
	wantGet(t, mustOpen(t, f, 0, 4), 1, 12)
	wantGet(t, a, 1, 14)
}

// P1: nil cells, and such as no call made.
func TestNil(t *testing.T) {
	var c *mark.Cells
	for _, i := range []int{-1, 0, 1} {
		wantErr(t, "Put", c.Put(i, i), api.ErrNil)
		wantNone(t, c, i)
		wantNone(t, &mark.Cells{}, i)
		if fault := new(mark.Cells).Put(i, i); fault == api.OK {
			t.Fatal("a Put on no disk")
		}
	}
	if c.Count() != 0 {
		t.Fatalf("%d cells of nil", c.Count())
	}
}
