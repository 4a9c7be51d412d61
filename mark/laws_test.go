package mark_test

import (
	"bytes"
	"testing"

	"grapevine/api"
	"grapevine/mark"
	"grapevine/sector"
)

// dice are numbers that look like chance, the same ones each time.
type dice uint64

// roll is a number from 0 to n - 1.
func (d *dice) roll(n int) int {
	*d = *d*6364136223846793005 + 1442695040888963407
	return int(uint64(*d)>>33) % n
}

// sector is bytes of one: whole, torn, or of no form.
func (d *dice) sector() []byte {
	b := whole(byte(d.roll(256)), int64(1+d.roll(3)), int64(d.roll(100)))
	switch d.roll(4) {
	case 0:
		for i := range b {
			b[i] = byte(d.roll(256))
		}
	case 1:
		copy(b, whole(byte(d.roll(256)), int64(1+d.roll(3)), int64(d.roll(100)))[:d.roll(api.Sector)])
	case 2:
		clear(b[d.roll(api.Sector):])
	}
	return b
}

// fates are all that one write may have: not done, whole, torn at each place.
func fates() []int {
	l := []int{0, 1}
	for k := range api.Sector {
		l = append(l, 2+3*k)
	}
	return l
}

// told is what Get tells.
type told struct {
	v  int
	ok bool
}

func get(c *mark.Cells, i int) told {
	v, ok := c.Get(i)
	return told{v, ok}
}

// P10.3: a Put that is broken off leaves that value, or what was told ahead, at each fate of its write, whatever the sectors had; the next Put is told.
func TestPutBrokenOff(t *testing.T) {
	chance := dice(1)
	for range 150 {
		d := mustDisk(t, 6)
		for i := range 6 {
			lay(t, d, i, chance.sector())
		}
		c := mustOpen(t, d, 0, 3)
		before := [3]told{get(c, 0), get(c, 1), get(c, 2)}
		for trip := 1; trip <= 2; trip++ {
			for _, fate := range fates() {
				f := d.Fork()
				c := mustOpen(t, f, 0, 3)
				wantErr(t, "Trip", f.Trip(trip), api.OK)
				wantErr(t, "Put", c.Put(1, 500), api.ErrDown)
				wantErr(t, "Crash", f.Crash([]int{fate}), api.OK)
				want := before[1]
				if trip == 2 && fate == 1 {
					want = told{500, true}
				}
				if got := get(c, 1); got != want {
					t.Fatalf("trip %d, fate %d: %v, wanted %v (ahead %v)", trip, fate, got, want, before[1])
				}
				if get(c, 0) != before[0] || get(c, 2) != before[2] {
					t.Fatal("another cell is changed")
				}
				mustPut(t, c, 1, 501)
				wantGet(t, c, 1, 501)
				wantErr(t, "Crash", f.Crash([]int{fate}), api.OK)
				wantGet(t, c, 1, 501)
			}
		}
	}
}

// P10.3: what was put is told, whatever chance does to what is written elsewhere; other cells, and sectors beside them, are as they were.
func TestPutLasts(t *testing.T) {
	for run := range 40 {
		chance := dice(run + 100)
		d := mustDisk(t, 10)
		for i := range 10 {
			lay(t, d, i, chance.sector())
		}
		c := mustOpen(t, d, 1, 4)
		for range 40 {
			i, v := chance.roll(4), chance.roll(api.MaxTick)
			beside := [2][]byte{sure(t, d, 0), sure(t, d, 9)}
			before := [4]told{get(c, 0), get(c, 1), get(c, 2), get(c, 3)}
			mustPut(t, c, i, v)
			before[i] = told{v, true}
			for range chance.roll(4) {
				wantErr(t, "Write", d.Write(9*chance.roll(2), chance.sector()), api.OK)
			}
			f := d.Fork()
			wantErr(t, "Crash", f.Crash([]int{chance.roll(300), chance.roll(300), chance.roll(300)}), api.OK)
			after := mustOpen(t, f, 1, 4)
			for k, want := range before {
				if get(c, k) != want || get(after, k) != want {
					t.Fatalf("cell %d behind Put(%d, %d): %v, behind a Crash %v, wanted %v", k, i, v, get(c, k), get(after, k), want)
				}
			}
			if !bytes.Equal(beside[0], sure(t, d, 0)) || !bytes.Equal(beside[1], sure(t, d, 9)) {
				t.Fatal("a sector beside the cells is changed")
			}
			wantErr(t, "Crash", d.Crash(nil), api.OK)
		}
	}
}

func sure(t *testing.T, d *sector.Disk, i int) []byte {
	t.Helper()
	b, fault := d.Sure(i)
	wantErr(t, "Sure", fault, api.OK)
	return b
}

// P10.3: many Puts, of which some are broken off and crash by chance: what is told is the last one that was OK, or one that was not since.
func TestPutsAndCrashes(t *testing.T) {
	for run := range 60 {
		chance := dice(run + 700)
		d := mustDisk(t, 6)
		c := mustOpen(t, d, 0, 3)
		var now [3]told
		for range 100 {
			i, v := chance.roll(3), chance.roll(1000)
			if chance.roll(2) == 0 {
				wantErr(t, "Trip", d.Trip(1+chance.roll(3)), api.OK)
			}
			if fault := c.Put(i, v); fault == api.OK {
				now[i] = told{v, true}
			} else {
				wantErr(t, "Put", fault, api.ErrDown)
				wantErr(t, "Crash", d.Crash([]int{chance.roll(400) - 200}), api.OK)
				if got := get(c, i); got != now[i] && got != (told{v, true}) {
					t.Fatalf("cell %d: %v, wanted %v or %d", i, got, now[i], v)
				}
				now[i] = get(c, i)
			}
			for k, want := range now {
				if got := get(c, k); got != want {
					t.Fatalf("cell %d: %v, wanted %v", k, got, want)
				}
			}
		}
	}
}

// P1: no bytes on the disk make it panic; and a Put is told whatever they are, if a number is left.
func FuzzAnySectors(f *testing.F) {
	f.Add([]byte{}, []byte{}, 0)
	f.Add(whole(1, 1, 5), whole(255, top, api.MaxTick), 7)
	f.Add(whole(1, top+1, 5), whole(0, 3, -1), api.MaxTick)
	f.Fuzz(func(t *testing.T, first, second []byte, v int) {
		d, c := one(t)
		d.Write(0, first)
		d.Write(1, second)
		was := get(c, 0)
		switch fault := c.Put(0, v); fault {
		case api.OK:
			wantGet(t, c, 0, v)
			wantErr(t, "Crash", d.Crash(nil), api.OK)
			wantGet(t, c, 0, v)
		case api.ErrArg, api.ErrLimit:
			if get(c, 0) != was || d.Waits() == 0 && len(first) <= api.Sector {
				t.Fatal("a Put that was refused changed something")
			}
		default:
			t.Fatalf("Put: error %d", fault)
		}
	})
}
