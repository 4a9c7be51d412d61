package evlog_test

import (
	"bytes"
	"cmp"
	"slices"
	"testing"

	"grapevine/api"
	"grapevine/evlog"
	"grapevine/mark"
	"grapevine/octet"
	"grapevine/sector"
)

// dice are numbers that look like chance, the same ones each time.
type dice uint64

// roll is a number from 0 to n - 1.
func (d *dice) roll(n int) int {
	*d = *d*6364136223846793005 + 1442695040888963407
	return int(uint64(*d)>>33) % n
}

// fates are so many: not done, whole, torn anywhere.
func (d *dice) fates(n int) []int {
	l := make([]int, n)
	for i := range l {
		l[i] = d.roll(3) + 3*d.roll(api.Sector)
	}
	return l
}

// body is some bytes; now and then as many as a log's own sectors begin and end with.
func (d *dice) body() []byte {
	n := []int{0, 1, 50, 51, 52, 110, 111, 200, api.MaxRec}[d.roll(9)]
	return bytes.Repeat([]byte{[]byte{0, 1, 0xe7}[d.roll(3)]}, n)
}

// words is a log as the document tells of it, step by step, on a disk of its own.
type words struct {
	d          *sector.Disk
	base, segs int
	order      []int // the used segments, in the order in which they were read or begun
	number     map[int]int64
	behind     map[int]int // the high tick behind each
	end        map[int]int
	high, rel  int
	recs       []api.Rec
}

func (w *words) bytes(seg, k int) string {
	b, _ := w.d.Read(w.base + 2 + 16*seg + k)
	return string(b)
}

func (w *words) write(seg, k int, s string) api.Errno {
	return w.d.Write(w.base+2+16*seg+k, []byte(s))
}

// good is a sector's kind, payload, and whether it is a last one; kind 0, if it is not good.
func good(s string) (int, string, bool) {
	for _, last := range []byte{0, 1} {
		for n := range 60 {
			if last == 0 && n < 59 {
				continue
			}
			for kind := byte(1); kind <= 3; kind++ {
				if s == string(laid(kind, last, []byte(s[4:4+n])...)) {
					return int(kind), s[4 : 4+n], last == 1
				}
			}
		}
	}
	return 0, "", false
}

func keyAt(s string, at int) int64 {
	n, _, fault := octet.TakeKey([]byte(s), at)
	if fault != api.OK {
		panic("no key")
	}
	return n
}

// readWords reads a disk.
func readWords(d *sector.Disk, base, segs int) *words {
	w := &words{d: d, base: base, segs: segs, number: map[int]int64{}, behind: map[int]int{}, end: map[int]int{}}
	heads := map[int]int{}
	for seg := range segs {
		kind, payload, last := good(w.bytes(seg, 0))
		if kind != 1 || !last || len(payload) != 16 {
			continue
		}
		number, tick := keyAt(payload, 0), keyAt(payload, 8)
		if number >= 1 && number <= top && tick >= 0 && tick <= api.MaxTick {
			w.order = append(w.order, seg)
			w.number[seg], heads[seg] = number, int(tick)
		}
	}
	slices.SortFunc(w.order, func(a, b int) int {
		return cmp.Or(cmp.Compare(w.number[a], w.number[b]), cmp.Compare(a, b))
	})
	for _, seg := range w.order {
		if heads[seg] > w.high {
			w.high = heads[seg]
		}
		w.end[seg] = 1
		for w.record(seg) {
		}
		w.behind[seg] = w.high
	}
	c, _ := mark.Open(d, base, 1)
	w.rel, _ = c.Get(0)
	if w.rel > w.high {
		w.high = w.rel
	}
	return w
}

// record reads one more of a segment, if there is one.
func (w *words) record(seg int) bool {
	all, k, last := "", w.end[seg], false
	for ; !last; k++ {
		if k == 16 {
			return false
		}
		kind, payload, isLast := good(w.bytes(seg, k))
		if k == w.end[seg] && kind != 2 || k > w.end[seg] && kind != 3 {
			return false
		}
		all, last = all+payload, isLast
	}
	if len(all) < 8 || keyAt(all, 0) <= int64(w.high) || keyAt(all, 0) > api.MaxTick {
		return false
	}
	w.high, w.end[seg] = int(keyAt(all, 0)), k
	w.recs = append(w.recs, api.Rec{Tick: w.high, Body: []byte(all[8:])})
	return true
}

const none = "\x00\x00\x00\x00\x00\x00\x00\x00\x00\x00\x00\x00\x00\x00\x00\x00\x00\x00\x00\x00\x00\x00\x00\x00\x00\x00\x00\x00\x00\x00\x00\x00" +
	"\x00\x00\x00\x00\x00\x00\x00\x00\x00\x00\x00\x00\x00\x00\x00\x00\x00\x00\x00\x00\x00\x00\x00\x00\x00\x00\x00\x00\x00\x00\x00\x00"

// free empties heads, and tells how many.
func (w *words) free(t int) (int, api.Errno) {
	var gone []int
	for _, seg := range w.order[:max(len(w.order)-1, 0)] {
		if w.behind[seg] <= t {
			if fault := w.write(seg, 0, none); fault != api.OK {
				return 0, fault
			}
			gone = append(gone, seg)
		}
	}
	w.order = slices.DeleteFunc(w.order, func(seg int) bool { return slices.Contains(gone, seg) })
	return len(gone), api.OK
}

// wipe empties a segment from a sector on, and tells how many were not.
func (w *words) wipe(seg, from int) (int, api.Errno) {
	n := 0
	for k := from; k < 16; k++ {
		if w.bytes(seg, k) != none {
			if fault := w.write(seg, k, none); fault != api.OK {
				return 0, fault
			}
			n++
		}
	}
	return n, api.OK
}

// openWords is Open, by the words of P11.1.
func openWords(d *sector.Disk, base, segs int) (*words, api.Errno) {
	w := readWords(d, base, segs)
	if len(w.order) == 0 {
		return w, api.OK
	}
	freed, fault := w.free(w.rel)
	if fault != api.OK {
		return nil, fault
	}
	last := w.order[len(w.order)-1]
	wiped, fault := w.wipe(last, w.end[last])
	if fault != api.OK {
		return nil, fault
	}
	if freed+wiped > 0 {
		if fault := d.Sync(); fault != api.OK {
			return nil, fault
		}
	}
	return w, api.OK
}

// append is Append, by the words of P11.2.
func (w *words) append(tick int, body []byte) api.Errno {
	switch {
	case w.d.Down():
		return api.ErrDown
	case len(body) > api.MaxRec:
		return api.ErrLimit
	case tick <= w.high || tick > api.MaxTick:
		return api.ErrTick
	}
	all := string(octet.Key(int64(tick))) + string(body)
	needs := (len(all) + 58) / 59
	seg := -1
	if len(w.order) > 0 {
		seg = w.order[len(w.order)-1]
	}
	if seg < 0 || 16-w.end[seg] < needs {
		if len(w.order) == w.segs {
			return api.ErrFull
		}
		number := int64(1)
		if seg >= 0 {
			number = w.number[seg] + 1
		}
		if number > top {
			return api.ErrLimit
		}
		seg = 0
		for slices.Contains(w.order, seg) {
			seg++
		}
		if _, fault := w.wipe(seg, 0); fault != api.OK {
			return fault
		}
		if fault := w.d.Sync(); fault != api.OK {
			return fault
		}
		if fault := w.write(seg, 0, string(headOf(number, int64(w.high)))); fault != api.OK {
			return fault
		}
		w.order = append(w.order, seg)
		w.number[seg], w.end[seg] = number, 1
	}
	for kind := byte(2); all != ""; kind = 3 {
		n, last := 59, byte(0)
		if len(all) <= 59 {
			n, last = len(all), 1
		}
		if fault := w.write(seg, w.end[seg], string(laid(kind, last, []byte(all[:n])...))); fault != api.OK {
			return fault
		}
		all = all[n:]
		w.end[seg]++
	}
	w.high, w.behind[seg] = tick, tick
	w.recs = append(w.recs, api.Rec{Tick: tick, Body: bytes.Clone(body)})
	return api.OK
}

// chop is Chop, by the words of P11.3.
func (w *words) chop(t int) api.Errno {
	switch {
	case w.d.Down():
		return api.ErrDown
	case t < 0 || t > w.high:
		return api.ErrArg
	case t <= w.rel:
		return api.OK
	}
	c, _ := mark.Open(w.d, w.base, 1)
	if fault := c.Put(0, t); fault != api.OK {
		return fault
	}
	freed, fault := w.free(t)
	if fault != api.OK {
		return fault
	}
	if freed > 0 {
		if fault := w.d.Sync(); fault != api.OK {
			return fault
		}
	}
	w.rel = t
	return api.OK
}

// hold holds a log, if the words' one is not broken off, and its disk against the words'.
func (w *words) hold(t *testing.T, l *evlog.Log) {
	t.Helper()
	wantLog(t, l, w.high, w.rel, len(w.order))
	var want []api.Rec
	for _, r := range w.recs {
		if r.Tick > w.rel {
			want = append(want, r)
		}
	}
	if got := l.Events(0, api.MaxTick); !sameRecs(got, want) {
		t.Fatalf("%d records, wanted %d", len(got), len(want))
	}
}

func sameDisks(t *testing.T, d, want *sector.Disk) {
	t.Helper()
	if d.Waits() != want.Waits() || d.Down() != want.Down() || d.Age() != want.Age() {
		t.Fatalf("%d writes wait, down %v, age %d, wanted %d, %v, %d", d.Waits(), d.Down(), d.Age(), want.Waits(), want.Down(), want.Age())
	}
	// Whether the writes that wait are alike, and in one order, shows when they are done one after the other.
	for n := range min(d.Waits(), 40) + 1 {
		a, b := d.Fork(), want.Fork()
		a.Crash(slices.Repeat([]int{1}, n))
		b.Crash(slices.Repeat([]int{1}, n))
		for i := range d.Size() {
			x, _ := a.Sure(i)
			y, _ := b.Sure(i)
			if !bytes.Equal(x, y) {
				t.Fatalf("sector %d, with %d writes: % x, wanted % x", i, n, x, y)
			}
		}
	}
}

// scribble lays chance's sectors on a disk: heads and records of small numbers and ticks, and others.
func (d *dice) scribble(disk *sector.Disk, base, segs int) {
	for seg := range segs {
		at := base + 2 + 16*seg
		if d.roll(4) > 0 {
			disk.Write(at, headOf(int64(d.roll(5)), int64(d.roll(30)-1)))
		}
		tick := d.roll(20)
		for k := 1; k < 16; {
			switch d.roll(9) {
			case 0:
				disk.Write(at+k, []byte("junk"))
			case 1:
				disk.Write(at+k, headOf(int64(d.roll(5)), int64(d.roll(30))))
			case 2:
				disk.Write(at+k, laid(3, 1, 'x'))
			case 3:
				k += d.roll(3)
			case 4:
				disk.Write(at+k, laid(2, 0, append(octet.Key(int64(tick)), make([]byte, 51)...)...))
			case 5:
				tick -= d.roll(3)
			default:
				disk.Write(at+k, recOf(int64(tick), "r"))
				tick += 1 + d.roll(9)
			}
			k++
		}
	}
	if d.roll(2) == 0 {
		disk.Write(base+d.roll(2), cellOf(int64(1+d.roll(3)), int64(d.roll(80))))
	}
}

// P11.1 to P11.4: many calls on disks of all kinds, each held, with all that the disk has, against the document's words; Open is tripped at each of its steps, the other calls by chance.
func TestAgainstTheWords(t *testing.T) {
	for run := range 150 {
		chance := dice(run)
		base, segs := chance.roll(3), 2+chance.roll(3)
		d := mustDisk(t, base+2+16*segs+chance.roll(3))
		if run%2 == 0 {
			chance.scribble(d, base, segs)
		}
		if run%4 == 0 {
			d.Sync()
		}
		d, l, w := both(t, d, base, segs)
		for range 40 {
			what, tick := chance.roll(10), l.High()+chance.roll(4)
			body := chance.body()
			up := chance.roll(max(1, l.High()+2))
			if chance.roll(2) == 0 {
				up = l.Rel() + chance.roll(4)
			}
			call := func(l *evlog.Log) api.Errno { return l.Append(tick, body) }
			same := func(w *words) api.Errno { return w.append(tick, body) }
			switch {
			case what == 0:
				call = func(l *evlog.Log) api.Errno { return l.Sync() }
				same = func(w *words) api.Errno { return w.d.Sync() }
			case what <= 2:
				call = func(l *evlog.Log) api.Errno { return l.Chop(up) }
				same = func(w *words) api.Errno { return w.chop(up) }
			case what == 3:
				fates := chance.fates(d.Waits())
				d.Crash(fates)
				wantErr(t, "Sync", l.Sync(), api.ErrStale)
				d, l, w = both(t, d, base, segs)
				continue
			}
			if chance.roll(6) == 0 {
				n := 1 + chance.roll(6)
				d.Trip(n)
				w.d.Trip(n)
			}
			had := readAll(l)
			got, want := call(l), same(w)
			wantErr(t, "a call", got, want)
			sameDisks(t, d, w.d)
			if got != api.OK && !had.is(l) {
				t.Fatal("a call that is not OK changed what the log tells")
			}
			if d.Down() {
				d.Crash(chance.fates(d.Waits()))
				d, l, w = both(t, d, base, segs)
				continue
			}
			w.hold(t, l)
		}
	}
}

// both opens a disk, and another one that is alike by the words, tripped at each step of it ahead of that.
func both(t *testing.T, d *sector.Disk, base, segs int) (*sector.Disk, *evlog.Log, *words) {
	t.Helper()
	for n := 1; ; n++ {
		a, b := d.Fork(), d.Fork()
		a.Trip(n)
		b.Trip(n)
		_, got := evlog.Open(a, base, segs)
		_, want := openWords(b, base, segs)
		wantErr(t, "Open", got, want)
		sameDisks(t, a, b)
		if got == api.OK {
			break
		}
	}
	other := d.Fork()
	l := mustOpen(t, d, base, segs)
	w, fault := openWords(other, base, segs)
	wantErr(t, "Open by the words", fault, api.OK)
	sameDisks(t, d, other)
	w.hold(t, l)
	return d, l, w
}

// told is all that a log tells.
type told struct {
	high, rel, used int
	recs            []api.Rec
}

func readAll(l *evlog.Log) told {
	return told{l.High(), l.Rel(), l.Used(), l.Events(0, api.MaxTick)}
}

func (a told) is(l *evlog.Log) bool {
	b := readAll(l)
	return a.high == b.high && a.rel == b.rel && a.used == b.used && sameRecs(a.recs, b.recs)
}

// life is what was done to a log since it was new, as far as its laws ask for it.
type life struct {
	recs   []api.Rec // all that may be there, in their order
	synced int       // how many of them are there for sure
	rel    int       // the last Chop that was OK
	tried  int       // one behind it that was not (0: none)
	half   *api.Rec  // one whose Append was broken off
}

// hold holds a log that was opened behind a crash against its life, which is from then on what it tells.
func (f *life) hold(t *testing.T, l *evlog.Log) {
	t.Helper()
	if l.Rel() != f.rel && l.Rel() != f.tried {
		t.Fatalf("released %d, wanted %d (or %d)", l.Rel(), f.rel, f.tried)
	}
	if l.Rel() < f.rel || l.High() < l.Rel() {
		t.Fatalf("released %d, high %d", l.Rel(), l.High())
	}
	all := f.recs
	if f.half != nil {
		all = append(slices.Clone(all), *f.half)
	}
	got := l.Events(0, api.MaxTick)
	// How many of all may be there: those up to the high tick.
	n := 0
	for n < len(all) && all[n].Tick <= l.High() {
		n++
	}
	if n < f.synced {
		t.Fatalf("high %d: %d records of %d that were synced", l.High(), n, f.synced)
	}
	want := slices.DeleteFunc(slices.Clone(all[:n]), func(r api.Rec) bool { return r.Tick <= l.Rel() })
	if !sameRecs(got, want) {
		t.Fatalf("%d records, wanted %d", len(got), len(want))
	}
	f.recs, f.synced, f.rel, f.tried, f.half = slices.Clone(all[:n]), n, l.Rel(), 0, nil
}

// step is one call by chance.
func (f *life) step(t *testing.T, chance *dice, l *evlog.Log) {
	t.Helper()
	switch chance.roll(8) {
	case 0, 1:
		if l.Sync() == api.OK {
			f.synced = len(f.recs)
		}
	case 2:
		up := l.Rel() + chance.roll(max(1, l.High()-l.Rel()+1))
		switch fault := l.Chop(up); fault {
		case api.OK:
			if up > f.rel {
				f.rel, f.synced = up, len(f.recs)
			}
		case api.ErrDown:
			f.tried = up
		default:
			t.Fatalf("Chop: error %d", fault)
		}
	default:
		rec := api.Rec{Tick: l.High() + 1 + chance.roll(3), Body: chance.body()}
		switch fault := l.Append(rec.Tick, rec.Body); fault {
		case api.OK:
			f.recs = append(f.recs, rec)
		case api.ErrDown:
			if f.half == nil {
				f.half = &rec
			}
		case api.ErrFull:
		default:
			t.Fatalf("Append: error %d", fault)
		}
	}
}

// P11.5, P11.6, G3: whatever chance does, and wherever the disk trips, Open tells a beginning of what was appended, with all that was synced, and the ticks do not fall.
func TestWhatLasts(t *testing.T) {
	for run := range 300 {
		chance := dice(run + 5000)
		segs := 2 + chance.roll(3)
		d, l := fresh(t, segs)
		f := &life{}
		for range 25 {
			if chance.roll(2) == 0 {
				d.Trip(1 + chance.roll(25))
			}
			for range chance.roll(25) {
				high, rel := l.High(), l.Rel()
				f.step(t, &chance, l)
				if l.High() < high || l.Rel() < rel {
					t.Fatal("a tick fell")
				}
				if d.Down() {
					break
				}
			}
			d.Crash(chance.fates(d.Waits()))
			// Open may be broken off too, again and again.
			for chance.roll(3) == 0 {
				d.Trip(1 + chance.roll(4))
				evlog.Open(d, 0, segs)
				d.Crash(chance.fates(d.Waits()))
			}
			l = mustOpen(t, d, 0, segs)
			f.hold(t, l)
		}
	}
}

// P11.5: an Append is broken off at each of its steps, with each fate of each one of its writes.
func TestAppendAtEachStep(t *testing.T) {
	d, l := fresh(t, 2)
	fill(t, l, 1)
	set(t, d, 18+5, []byte("junk"))
	for trip := 1; trip <= 9; trip++ {
		for torn := range 8 {
			for k := range 2 * api.Sector {
				f := d.Fork()
				l := mustOpen(t, f, 0, 2)
				f.Trip(trip)
				if fault := l.Append(40, bytes.Repeat([]byte{0xe7}, 300)); fault != api.ErrDown {
					t.Fatalf("step %d: error %d", trip, fault)
				}
				fates := slices.Repeat([]int{1}, f.Waits())
				if torn < len(fates) {
					fates[torn] = 2*(1-k%2) + 3*(k/2)
				}
				f.Crash(fates)
				again := mustOpen(t, f, 0, 2)
				if high := again.High(); high > 15 || len(again.Events(1, 99)) != high {
					t.Fatalf("step %d, write %d, byte %d: high %d", trip, torn, k, high)
				}
				if trip > 2 && again.High() != 15 {
					t.Fatalf("step %d: records that were synced are gone", trip)
				}
				for tick := again.High() + 1; tick <= 20; tick++ {
					mustAppend(t, again, tick, "on")
				}
				mustSync(t, again)
				if n := len(mustOpen(t, f, 0, 2).Events(0, 99)); n != 20 {
					t.Fatalf("%d records behind it", n)
				}
			}
		}
	}
}

// P11.7, G5: as long as what is not released fits in all segments but two, there is room; where all is released one segment is used, behind Open too.
func TestThereIsRoom(t *testing.T) {
	for run := range 40 {
		chance := dice(run + 900)
		segs := 3 + chance.roll(3)
		d, l := fresh(t, segs)
		for range 300 {
			body := chance.body()
			wantErr(t, "Append", l.Append(l.High()+1, body), api.OK)
			// Seven sectors at the most are not released: one record.
			if chance.roll(2) == 0 {
				mustChop(t, l, l.High()-1)
			} else {
				mustChop(t, l, l.High())
				wantTicks(t, l)
				if l.Used() != 1 {
					t.Fatalf("%d segments are used, with all released", l.Used())
				}
			}
			if chance.roll(10) == 0 {
				d.Crash(nil)
				l = mustOpen(t, d, 0, segs)
				if l.Used() > 2 {
					t.Fatalf("%d segments are used for one record", l.Used())
				}
			}
		}
		mustChop(t, l, l.High())
		if again := mustOpen(t, d, 0, segs); again.Used() != 1 || again.Rel() != again.High() {
			t.Fatalf("used %d, high %d, released %d", again.Used(), again.High(), again.Rel())
		}
	}
}

// P11.7: as many records of one sector as all segments but two have room for are not released, and one more is always taken.
func TestRoomForAllButTwo(t *testing.T) {
	for segs := 2; segs <= 5; segs++ {
		for run := range 30 {
			chance := dice(run + 300*segs)
			_, l := fresh(t, segs)
			for range 400 {
				over := len(l.Events(0, api.MaxTick)) - 15*(segs-2)
				if over > 0 {
					mustChop(t, l, l.Rel()+over)
				} else if chance.roll(60) == 0 {
					mustChop(t, l, l.Rel()+chance.roll(l.High()-l.Rel()+1))
				}
				mustAppend(t, l, l.High()+1, "r")
			}
		}
	}
}

// P1: no bytes on the disk make it panic, and what is read is read so by the words.
func FuzzAnySectors(f *testing.F) {
	f.Add([]byte{}, 5)
	f.Add(slices.Concat(cellOf(1, 3), cellOf(0, 0), headOf(1, 0), recOf(4, "ab"), laid(2, 0, make([]byte, 59)...)), 9)
	f.Add(slices.Concat(make([]byte, 128), headOf(top, api.MaxTick), recOf(api.MaxTick, "x")), -1)
	f.Fuzz(func(t *testing.T, b []byte, tick int) {
		d := mustDisk(t, 34)
		for i := 0; i < 34 && len(b) > 0; i++ {
			n := min(len(b), api.Sector)
			wantErr(t, "Write", d.Write(i, b[:n]), api.OK)
			b = b[n:]
		}
		d, l, w := both(t, d, 0, 2)
		wantErr(t, "Append", l.Append(tick, []byte("x")), w.append(tick, []byte("x")))
		wantErr(t, "Chop", l.Chop(tick), w.chop(tick))
		sameDisks(t, d, w.d)
		w.hold(t, l)
	})
}
