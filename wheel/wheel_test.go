package wheel_test

import (
	"math"
	"slices"
	"testing"

	"grapevine/api"
	"grapevine/wheel"
)

func mustNew(t *testing.T, now int) *wheel.Wheel {
	t.Helper()
	w, fault := wheel.New(now)
	if fault != api.OK || w == nil {
		t.Fatalf("New(%d): error %d", now, fault)
	}
	return w
}

func wantErr(t *testing.T, call string, got, want api.Errno) {
	t.Helper()
	if got != want {
		t.Fatalf("%s: error %d, wanted %d", call, got, want)
	}
}

func mustSet(t *testing.T, w *wheel.Wheel, id, at int) {
	t.Helper()
	wantErr(t, "Set", w.Set(id, at), api.OK)
}

func wantAdvance(t *testing.T, w *wheel.Wheel, to int, want ...int) {
	t.Helper()
	if got, fault := w.Advance(to); fault != api.OK || !slices.Equal(got, want) {
		t.Fatalf("Advance(%d): %v, error %d, wanted %v", to, got, fault, want)
	}
	if w.Now() != to {
		t.Fatalf("behind Advance(%d) it is %d", to, w.Now())
	}
}

func wantAt(t *testing.T, w *wheel.Wheel, id, want int) {
	t.Helper()
	if at, ok := w.At(id); !ok || at != want {
		t.Fatalf("At(%d): %d, %v, wanted %d", id, at, ok, want)
	}
}

func noAt(t *testing.T, w *wheel.Wheel, id int) {
	t.Helper()
	if at, ok := w.At(id); ok || at != 0 {
		t.Fatalf("At(%d): %d, %v, wanted none", id, at, ok)
	}
}

func wantNext(t *testing.T, w *wheel.Wheel, want int) {
	t.Helper()
	if at, ok := w.Next(); !ok || at != want {
		t.Fatalf("Next: %d, %v, wanted %d", at, ok, want)
	}
}

func noNext(t *testing.T, w *wheel.Wheel) {
	t.Helper()
	if at, ok := w.Next(); ok || at != 0 {
		t.Fatalf("Next: %d, %v, wanted none", at, ok)
	}
}

func wantIds(t *testing.T, w *wheel.Wheel, want ...int) {
	t.Helper()
	if got := w.Ids(); !slices.Equal(got, want) {
		t.Fatalf("Ids: %v, wanted %v", got, want)
	}
}

// others are numbers that no timer may have.
var others = []int{0, -1, api.MaxTimers + 1, math.MinInt, math.MaxInt, 1<<32 + 1, -1 << 32, 1 << 62}

// P12.1
func TestNew(t *testing.T) {
	for _, now := range []int{-1, math.MinInt, api.MaxTick + 1, math.MaxInt} {
		if w, fault := wheel.New(now); fault != api.ErrArg || w != nil {
			t.Fatalf("New(%d): %v, error %d", now, w, fault)
		}
	}
	for _, now := range []int{0, 1, 77, api.MaxTick - 1, api.MaxTick} {
		w := mustNew(t, now)
		if w.Now() != now {
			t.Fatalf("of %d: %d", now, w.Now())
		}
		noNext(t, w)
		wantIds(t, w)
		for id := 1; id <= api.MaxTimers; id++ {
			noAt(t, w, id)
			wantErr(t, "Drop", w.Drop(id), api.ErrGone)
		}
		wantAdvance(t, w, now)
	}
}

// P12.2: the document's example.
func TestExample(t *testing.T) {
	w := mustNew(t, 0)
	mustSet(t, w, 1, 9)
	mustSet(t, w, 2, 5)
	mustSet(t, w, 3, 9)
	wantAdvance(t, w, 5, 2)
	wantAdvance(t, w, 9, 1, 3)
	wantAdvance(t, w, 9)
	wantIds(t, w)
}

// P12.1: what may not be set changes nothing.
func TestSetErrors(t *testing.T) {
	w := mustNew(t, 10)
	mustSet(t, w, 1, 20)
	mustSet(t, w, api.MaxTimers, 30)
	for _, id := range others {
		wantErr(t, "Set", w.Set(id, 15), api.ErrArg)
		noAt(t, w, id)
		wantErr(t, "Drop", w.Drop(id), api.ErrGone)
	}
	for _, at := range []int{-1, math.MinInt, api.MaxTick + 1, math.MaxInt} {
		wantErr(t, "Set", w.Set(1, at), api.ErrArg)
		wantErr(t, "Set", w.Set(2, at), api.ErrArg)
	}
	wantIds(t, w, 1, api.MaxTimers)
	wantAt(t, w, 1, 20)
	wantNext(t, w, 20)
	wantAdvance(t, w, 30, 1, api.MaxTimers)
}

// P12.1: a timer that is set anew is due then alone, earlier or later.
func TestSetAnew(t *testing.T) {
	for _, first := range []int{0, 3, 8, 9, 12, 13, 40, 1 << 20, api.MaxTick} {
		for _, second := range []int{0, 3, 8, 9, 12, 13, 40, 1 << 20, api.MaxTick} {
			w := mustNew(t, 8)
			mustSet(t, w, 5, first)
			mustSet(t, w, 5, second)
			wantAt(t, w, 5, second)
			wantNext(t, w, second)
			wantIds(t, w, 5)
			if second > 8 {
				wantAdvance(t, w, second-1)
				wantAt(t, w, 5, second)
			}
			wantAdvance(t, w, max(second, 8), 5)
			wantAdvance(t, w, api.MaxTick)
		}
	}
}

// P12.1
func TestDrop(t *testing.T) {
	w := mustNew(t, 8)
	for _, at := range []int{0, 7, 8, 9, 15, 16, 1 << 30, api.MaxTick} {
		mustSet(t, w, 4, at)
		mustSet(t, w, 9, at)
		wantErr(t, "Drop", w.Drop(4), api.OK)
		wantErr(t, "Drop", w.Drop(4), api.ErrGone)
		noAt(t, w, 4)
		wantAt(t, w, 9, at)
		wantIds(t, w, 9)
		wantNext(t, w, at)
		wantErr(t, "Drop", w.Drop(9), api.OK)
		noNext(t, w)
		wantIds(t, w)
	}
	wantAdvance(t, w, api.MaxTick)
	wantErr(t, "Drop", w.Drop(4), api.ErrGone)
}

// P12.1: one that is due earlier than the wheel's tick comes with the next Advance, though it be to the same tick; it is due when it was set to be.
func TestDueAtOnce(t *testing.T) {
	for _, at := range []int{0, 1, 63, 64, 99, 100} {
		w := mustNew(t, 100)
		mustSet(t, w, 7, at)
		mustSet(t, w, 8, 101)
		wantAt(t, w, 7, at)
		wantNext(t, w, at)
		f := w.Fork()
		wantAdvance(t, w, 100, 7)
		wantAdvance(t, w, 101, 8)
		wantAdvance(t, f, 200, 7, 8)
	}
	// In the order of when they were due, though they are all late.
	w := mustNew(t, 100)
	mustSet(t, w, 1, 50)
	mustSet(t, w, 2, 100)
	mustSet(t, w, 3, 0)
	mustSet(t, w, 4, 50)
	mustSet(t, w, 5, 120)
	wantNext(t, w, 0)
	wantAdvance(t, w, 120, 3, 1, 4, 2, 5)
}

// P12.2: what may not be advanced to changes nothing.
func TestAdvanceErrors(t *testing.T) {
	w := mustNew(t, 50)
	mustSet(t, w, 1, 20)
	mustSet(t, w, 2, 60)
	for _, to := range []int{49, 0, -1, math.MinInt, api.MaxTick + 1, math.MaxInt} {
		if l, fault := w.Advance(to); fault != api.ErrArg || len(l) != 0 {
			t.Fatalf("Advance(%d): %v, error %d", to, l, fault)
		}
	}
	if w.Now() != 50 {
		t.Fatalf("it is %d", w.Now())
	}
	wantIds(t, w, 1, 2)
	wantAdvance(t, w, 50, 1)
	wantAdvance(t, w, api.MaxTick, 2)
	wantAdvance(t, w, api.MaxTick)
}

// P12.2: all timers there may be, of like ticks, come by their numbers; of others by their ticks.
func TestOrder(t *testing.T) {
	w, back := mustNew(t, 3), mustNew(t, 3)
	var all []int
	for id := 1; id <= api.MaxTimers; id++ {
		all = append(all, id)
	}
	for _, id := range slices.Backward(all) {
		mustSet(t, w, id, 1000)
		mustSet(t, back, id, 1000-id)
	}
	wantIds(t, w, all...)
	wantAdvance(t, w, 999)
	wantAdvance(t, w, 1000, all...)
	wantIds(t, w)
	slices.Reverse(all)
	wantNext(t, back, 1000-api.MaxTimers)
	wantAdvance(t, back, 5000, all...)
}

// P1: of nil.
func TestNil(t *testing.T) {
	var w *wheel.Wheel
	wantErr(t, "Set", w.Set(1, 1), api.ErrNil)
	wantErr(t, "Set", w.Set(0, -1), api.ErrNil)
	wantErr(t, "Drop", w.Drop(1), api.ErrNil)
	if l, fault := w.Advance(-1); fault != api.ErrNil || len(l) != 0 {
		t.Fatalf("Advance: %v, error %d", l, fault)
	}
	noAt(t, w, 1)
	noNext(t, w)
	wantIds(t, w)
	if w.Now() != 0 || w.Fork() != nil {
		t.Fatal("nil is something")
	}
}

// P3, P4: answers are new memory; a wheel and its Fork go their own ways.
func TestMemory(t *testing.T) {
	w := mustNew(t, 5)
	for id := 1; id <= 9; id++ {
		mustSet(t, w, id, 10*id)
	}
	clear(w.Ids())
	f := w.Fork()
	l, _ := f.Advance(45)
	clear(l)
	mustSet(t, f, 9, 46)
	mustSet(t, f, 20, 47)
	wantErr(t, "Drop", f.Drop(8), api.OK)
	wantIds(t, w, 1, 2, 3, 4, 5, 6, 7, 8, 9)
	if w.Now() != 5 {
		t.Fatal("a Fork moves the wheel on")
	}
	wantAdvance(t, w, 100, 1, 2, 3, 4, 5, 6, 7, 8, 9)
	wantIds(t, f, 5, 6, 7, 9, 20)
	wantAdvance(t, f, 100, 9, 20, 5, 6, 7)
}
