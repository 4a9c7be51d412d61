package wheel_test

import (
	"cmp"
	"maps"
	"slices"
	"testing"

	"grapevine/api"
	"grapevine/wheel"
)

// dice are numbers that look like chance, the same ones each time.
type dice uint64

// roll is a number from 0 to n - 1.
func (d *dice) roll(n int) int {
	*d = *d*6364136223846793005 + 1442695040888963407
	return int(uint64(*d)>>31) % n
}

// ahead is a tick, near a tick or far from it, as likely of each size; now and then at an edge of a bit.
func (d *dice) ahead(now int) int {
	size := 1 << d.roll(41)
	at := now + d.roll(size) + d.roll(3) - 1
	switch d.roll(6) {
	case 0:
		at = (now/size+1)*size + d.roll(3) - 1
	case 1:
		at = now - d.roll(size)
	case 2:
		at = api.MaxTick - d.roll(2)
	}
	return min(max(at, 0), api.MaxTick)
}

// row is timers without slots: what the document says of them, gone through each time.
type row struct {
	now int
	due map[int]int
}

func (r *row) advance(to int) []int {
	r.now = to
	var told []int
	for id, at := range r.due {
		if at <= to {
			told = append(told, id)
		}
	}
	slices.SortFunc(told, func(a, b int) int { return cmp.Or(cmp.Compare(r.due[a], r.due[b]), cmp.Compare(a, b)) })
	for _, id := range told {
		delete(r.due, id)
	}
	return told
}

// hold holds all that a wheel tells against the row.
func (r *row) hold(t *testing.T, w *wheel.Wheel) {
	t.Helper()
	if w.Now() != r.now {
		t.Fatalf("it is %d, wanted %d", w.Now(), r.now)
	}
	wantIds(t, w, slices.Sorted(maps.Keys(r.due))...)
	for id := range api.MaxTimers + 2 {
		if at, ok := r.due[id]; ok {
			wantAt(t, w, id, at)
		} else {
			noAt(t, w, id)
		}
	}
	if len(r.due) == 0 {
		noNext(t, w)
		return
	}
	wantNext(t, w, slices.Min(slices.Collect(maps.Values(r.due))))
}

// P12.1, P12.2: many calls of all kinds, each held against the document's words.
func TestAgainstTheWords(t *testing.T) {
	for run := range 400 {
		chance := dice(run)
		now := chance.ahead(0)
		if run%2 == 0 {
			now = chance.roll(300)
		}
		w, r := mustNew(t, now), &row{now, map[int]int{}}
		for range 150 {
			id := 1 + chance.roll(api.MaxTimers)
			switch chance.roll(7) {
			case 0:
				want := api.OK
				if _, ok := r.due[id]; !ok {
					want = api.ErrGone
				}
				wantErr(t, "Drop", w.Drop(id), want)
				delete(r.due, id)
			case 1:
				to := max(r.now, chance.ahead(r.now))
				if chance.roll(4) > 0 {
					to = min(r.now+chance.roll(50), api.MaxTick)
				}
				wantAdvance(t, w, to, r.advance(to)...)
			case 2:
				if at, ok := w.Next(); ok && at > r.now {
					wantAdvance(t, w, at-1, r.advance(at-1)...)
					wantAdvance(t, w, at, r.advance(at)...)
				}
			default:
				at := chance.ahead(r.now)
				mustSet(t, w, id, at)
				r.due[id] = at
			}
			r.hold(t, w)
		}
	}
}

// P12.3: two Advances tell what one does; each timer comes once; Next tells when the first one comes.
func TestTwoAdvances(t *testing.T) {
	for run := range 400 {
		chance := dice(run + 7000)
		now := chance.roll(1 << 20)
		w := mustNew(t, now)
		for id := 1; id <= api.MaxTimers; id++ {
			if chance.roll(3) > 0 {
				mustSet(t, w, id, max(now, chance.ahead(now)))
			}
		}
		all := w.Ids()
		to := max(now, chance.ahead(now))
		one := w.Fork()
		whole, fault := one.Advance(to)
		wantErr(t, "Advance", fault, api.OK)
		var parts []int
		for w.Now() < to {
			first, ok := w.Next()
			next := w.Now() + 1 + chance.roll(to-w.Now())
			told, fault := w.Advance(next)
			wantErr(t, "Advance", fault, api.OK)
			if due := ok && first <= next; due != (len(told) > 0) {
				t.Fatalf("Next told %d (%v), and Advance(%d) %v", first, ok, next, told)
			}
			parts = append(parts, told...)
		}
		if now == to {
			parts, _ = w.Advance(to)
		}
		if !slices.Equal(parts, whole) || !slices.Equal(w.Ids(), one.Ids()) {
			t.Fatalf("by steps %v, at once %v", parts, whole)
		}
		came := slices.Sorted(slices.Values(append(parts, w.Ids()...)))
		if !slices.Equal(came, all) {
			t.Fatalf("told or left: %v, of %v", came, all)
		}
	}
}

// P12.3: a timer comes at the first Advance to its tick or behind it, and not ahead, at each distance and each edge of a bit.
func TestEachSize(t *testing.T) {
	for _, now := range []int{0, 1, 2, 7, 8, 255, 256, 1<<39 - 1, 1 << 39, 1<<39 + 5} {
		for k := range 40 {
			for _, left := range []int{1<<k - 1, 1 << k, 1<<k + 1} {
				at := now + left
				if left == 0 || at > api.MaxTick {
					continue
				}
				w := mustNew(t, now)
				mustSet(t, w, 64, at)
				wantAdvance(t, w, now+left/2)
				wantAdvance(t, w, at-1)
				wantNext(t, w, at)
				f := w.Fork()
				wantAdvance(t, w, at, 64)
				wantAdvance(t, w, api.MaxTick)
				wantAdvance(t, f, api.MaxTick, 64)
			}
		}
	}
}

// P1: a wheel that no call made does not panic.
func TestMadeByNobody(t *testing.T) {
	w := &wheel.Wheel{}
	w.Set(1, 5)
	w.Drop(2)
	w.At(1)
	w.Next()
	w.Fork().Ids()
	w.Advance(9)
}
