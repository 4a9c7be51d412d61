package sector_test

import (
	"bytes"
	"slices"
	"testing"

	"grapevine/api"
	"grapevine/sector"
)

// dice are numbers that look like chance, the same ones each time.
type dice uint64

// roll is a number from 0 to n - 1.
func (d *dice) roll(n int) int {
	*d = *d*6364136223846793005 + 1442695040888963407
	return int(uint64(*d)>>33) % n
}

// bytes are some, from none to one more than a sector has.
func (d *dice) bytes() []byte {
	b := make([]byte, d.roll(api.Sector+2))
	for i := range b {
		b[i] = byte(d.roll(256))
	}
	return b
}

// fates are some, below 0 too.
func (d *dice) fates(n int) []int {
	l := make([]int, d.roll(n+1))
	for i := range l {
		l[i] = d.roll(1000) - 300
	}
	return l
}

// past is a disk as all that was ever done on it: what is sure is reckoned from the beginning each time it is asked for.
type past struct {
	size  int
	done  []laying // what lasts, in its order
	waits []laying
	left  int // Writes and Syncs ahead of the one that trips; -1: none does
	down  bool
	age   int
}

// laying is a sector's first bytes that are laid.
type laying struct {
	at int
	b  []byte
}

// after is a sector behind all of these, one behind the other.
func after(i int, all ...laying) []byte {
	b := make([]byte, api.Sector)
	for _, one := range all {
		if one.at == i {
			for k, c := range one.b {
				b[k] = c
			}
		}
	}
	return b
}

func (p *past) step() api.Errno {
	if p.left == 0 {
		p.down = true
		return api.ErrDown
	}
	if p.left > 0 {
		p.left--
	}
	return api.OK
}

func (p *past) write(i int, b []byte) api.Errno {
	switch {
	case p.down:
		return api.ErrDown
	case i < 0 || i >= p.size:
		return api.ErrArg
	case len(b) > api.Sector:
		return api.ErrLimit
	}
	if fault := p.step(); fault != api.OK {
		return fault
	}
	p.waits = append(p.waits, laying{i, full(string(b))})
	return api.OK
}

func (p *past) sync() api.Errno {
	if p.down {
		return api.ErrDown
	}
	if fault := p.step(); fault != api.OK {
		return fault
	}
	p.done, p.waits = append(p.done, p.waits...), nil
	return api.OK
}

func (p *past) trip(n int) api.Errno {
	switch {
	case p.down:
		return api.ErrDown
	case n < 0:
		return api.ErrArg
	}
	p.left = n - 1
	return api.OK
}

func (p *past) crash(fates []int) {
	for i, w := range p.waits {
		fate := uint64(0)
		if i < len(fates) {
			fate = uint64(fates[i])
		}
		if fate%3 == 1 {
			p.done = append(p.done, w)
		}
		if fate%3 == 2 {
			p.done = append(p.done, laying{w.at, w.b[:(fate-fate%3)/3%api.Sector]})
		}
	}
	p.waits, p.left, p.down = nil, -1, false
	p.age++
}

func (p *past) fork() *past {
	f := *p
	f.done, f.waits = slices.Clone(p.done), slices.Clone(p.waits)
	return &f
}

// hold holds all that a disk tells against its past.
func (p *past) hold(t *testing.T, d *sector.Disk) {
	t.Helper()
	if d.Size() != p.size || d.Waits() != len(p.waits) || d.Down() != p.down || d.Age() != p.age {
		t.Fatalf("%d sectors, %d writes, down %v, age %d, wanted %d, %d, %v, %d", d.Size(), d.Waits(), d.Down(), d.Age(), p.size, len(p.waits), p.down, p.age)
	}
	for i := range p.size {
		if b, fault := d.Sure(i); fault != api.OK || !bytes.Equal(b, after(i, p.done...)) {
			t.Fatalf("Sure(%d): % x, error %d", i, b, fault)
		}
		b, fault := d.Read(i)
		if p.down && (fault != api.ErrDown || len(b) != 0) {
			t.Fatalf("Read(%d) of a disk that is down: % x, error %d", i, b, fault)
		}
		if !p.down && (fault != api.OK || !bytes.Equal(b, after(i, slices.Concat(p.done, p.waits)...))) {
			t.Fatalf("Read(%d): % x, error %d", i, b, fault)
		}
	}
}

// P9.1 to P9.4: many steps of all kinds, each held against the document's words.
func TestSteps(t *testing.T) {
	for run := range 60 {
		chance := dice(run)
		size := 1 + chance.roll(4)
		d, p := mustNew(t, size), &past{size: size, left: -1}
		for range 80 {
			switch chance.roll(8) {
			case 0:
				wantErr(t, "Sync", d.Sync(), p.sync())
			case 1:
				n := chance.roll(9) - 2
				wantErr(t, "Trip", d.Trip(n), p.trip(n))
			case 2:
				fates := chance.fates(len(p.waits) + 2)
				wantErr(t, "Crash", d.Crash(fates), api.OK)
				p.crash(fates)
			case 3:
				f, old := d.Fork(), p.fork()
				f.Write(0, []byte("other"))
				f.Crash(chance.fates(9))
				p.hold(t, d)
				f = d.Fork()
				d.Write(0, []byte("other"))
				d.Sync()
				d, p = f, old
			default:
				i, b := chance.roll(size+2)-1, chance.bytes()
				wantErr(t, "Write", d.Write(i, b), p.write(i, b))
			}
			p.hold(t, d)
		}
	}
}

// P9.5: what was synced, and not written since, is as it was; what waits is one of the rows that a Crash may leave.
func TestWhatLasts(t *testing.T) {
	for run := range 300 {
		chance := dice(run + 1000)
		d := mustNew(t, 3)
		rows := [3][][]byte{}
		for i := range 3 {
			b := full(string(bytes.Repeat([]byte{byte(1 + i)}, api.Sector)))
			mustWrite(t, d, i, string(b))
			rows[i] = [][]byte{b}
		}
		mustSync(t, d)
		wrote := 1 + chance.roll(2)
		for i := range wrote {
			b := full(string(bytes.Repeat([]byte{byte(0x10 + i)}, chance.roll(api.Sector+1))))
			mustWrite(t, d, i, string(b))
			rows[i] = append(rows[i], b)
		}
		if chance.roll(2) == 0 {
			wantErr(t, "Trip", d.Trip(1), api.OK)
			wantErr(t, "Sync", d.Sync(), api.ErrDown)
		}
		wantErr(t, "Crash", d.Crash(chance.fates(4)), api.OK)
		for i := range 3 {
			b, _ := d.Read(i)
			if !pieced(b, rows[i]) {
				t.Fatalf("sector %d: % x", i, b)
			}
			wantErr(t, "Crash", d.Crash(chance.fates(4)), api.OK)
			if again, _ := d.Read(i); !bytes.Equal(b, again) {
				t.Fatalf("sector %d is another one behind the next Crash", i)
			}
		}
	}
}

// pieced: is b the first bytes of one row (or none of them), and the others of the one ahead?
func pieced(b []byte, rows [][]byte) bool {
	for k := range rows {
		for cut := range api.Sector + 1 {
			if bytes.Equal(b, slices.Concat(rows[k][:cut], rows[max(k-1, 0)][cut:])) {
				return true
			}
		}
	}
	return false
}

// P9.6: a Crash all of whose fates are 1 is a Sync; one without fates leaves what was sure.
func TestCrashAndSync(t *testing.T) {
	for run := range 100 {
		chance := dice(run + 5000)
		d := mustNew(t, 3)
		for range chance.roll(6) {
			d.Write(chance.roll(3), chance.bytes())
		}
		d.Sync()
		for range chance.roll(6) {
			d.Write(chance.roll(3), chance.bytes())
		}
		whole, none, synced := d.Fork(), d.Fork(), d.Fork()
		wantErr(t, "Crash", whole.Crash(slices.Repeat([]int{1}, d.Waits())), api.OK)
		wantErr(t, "Crash", none.Crash(nil), api.OK)
		mustSync(t, synced)
		for i := range 3 {
			sure, _ := d.Sure(i)
			want, _ := synced.Sure(i)
			wantRead(t, whole, i, string(want))
			wantSure(t, whole, i, string(want))
			wantRead(t, none, i, string(sure))
			wantSure(t, none, i, string(sure))
		}
	}
}
