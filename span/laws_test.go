package span_test

import (
	"bytes"
	"slices"
	"testing"

	"grapevine/api"
	"grapevine/span"
)

// width is how many ticks are gone through one by one.
const width = 12

// dice are numbers that look like chance, the same ones each time.
type dice uint64

// roll is a number from 0 to n - 1.
func (d *dice) roll(n int) int {
	*d = *d*6364136223846793005 + 1442695040888963407
	return int(uint64(*d)>>33) % n
}

// row is what is known of width ticks, one by one.
type row [width]api.Know

func (d *dice) row() row {
	var r row
	for i := range r {
		r[i] = api.Know(d.roll(4))
		if i > 0 && d.roll(2) == 0 {
			r[i] = r[i-1]
		}
	}
	return r
}

// laid is the right map of a row whose first tick is from.
func laid(r row, from int) []api.Span {
	var l []api.Span
	for i, k := range r {
		switch tick := from + i; {
		case k == api.Unknown:
		case i > 0 && r[i-1] == k:
			l[len(l)-1].To = tick
		default:
			l = append(l, sp(tick, tick, k))
		}
	}
	return l
}

// places are from where on rows are laid: the first ticks, the last ones, and others.
func places() []int { return []int{1, last - width + 1, 1000, 1 << 39} }

// each calls with rows of chance, and where they lie.
func each(seed dice, call func(d *dice, at int)) {
	for range 300 {
		for _, at := range places() {
			call(&seed, at)
		}
	}
}

func joined(t *testing.T, a, b []api.Span) []api.Span {
	t.Helper()
	l, fault := span.Join(a, b)
	if fault != api.OK || !span.Right(l) {
		t.Fatalf("Join(%v, %v): %v, error %d", a, b, l, fault)
	}
	return l
}

// P8.1: At and Count, tick by tick.
func TestTicks(t *testing.T) {
	each(1, func(d *dice, at int) {
		r := d.row()
		l := laid(r, at)
		var counts [4]int
		for i, k := range r {
			counts[k]++
			if got := span.At(l, at+i); got != k {
				t.Fatalf("At(%v, %d): %d, wanted %d", l, at+i, got, k)
			}
		}
		for k := api.Data; k <= api.Lost; k++ {
			if n := span.Count(l, k); n != counts[k] {
				t.Fatalf("Count(%v, %d): %d, wanted %d", l, k, n, counts[k])
			}
		}
		if !span.Right(l) || span.Count(l, api.Unknown) != 0 || span.At(l, at-1) != 0 || span.At(l, at+width) != 0 {
			t.Fatalf("what %v knows", l)
		}
	})
}

// P8.2, P8.5: tick by tick the greater one, in whichever order.
func TestJoinLaws(t *testing.T) {
	each(2, func(d *dice, at int) {
		a, b, c := d.row(), d.row(), d.row()
		var both row
		for i := range both {
			both[i] = max(a[i], b[i])
		}
		first, second, third := laid(a, at), laid(b, at), laid(c, at)
		l := joined(t, first, second)
		if !slices.Equal(l, laid(both, at)) {
			t.Fatalf("Join(%v, %v): %v, wanted %v", first, second, l, laid(both, at))
		}
		if !slices.Equal(l, joined(t, second, first)) {
			t.Fatalf("Join minds the order of %v and %v", first, second)
		}
		if !slices.Equal(joined(t, l, third), joined(t, first, joined(t, second, third))) {
			t.Fatalf("Join minds how %v, %v and %v are joined", first, second, third)
		}
		if !slices.Equal(joined(t, first, first), first) || !slices.Equal(joined(t, first, nil), first) || !slices.Equal(joined(t, l, first), l) {
			t.Fatalf("%v joined to itself", first)
		}
	})
}

// ranged calls with each range of the ticks from at on, as places in a row, and as ticks.
func ranged(at int, call func(i, j, from, to int)) {
	for i := range width {
		for j := i; j < width; j++ {
			call(i, j, at+i, at+j)
		}
	}
}

// P8.2, P8.5: Keep and Forget, tick by tick, and joined.
func TestKeepLaws(t *testing.T) {
	seed := dice(3)
	for range 30 {
		for _, at := range places() {
			r := seed.row()
			l := laid(r, at)
			ranged(at, func(i, j, from, to int) {
				var in, out row
				copy(in[i:j+1], r[i:j+1])
				copy(out[:i], r[:i])
				copy(out[j+1:], r[j+1:])
				kept, fault := span.Keep(l, from, to)
				others, other := span.Forget(l, from, to)
				if fault != api.OK || other != api.OK || !slices.Equal(kept, laid(in, at)) || !slices.Equal(others, laid(out, at)) {
					t.Fatalf("of %v, from %d to %d: kept %v, others %v", l, from, to, kept, others)
				}
				if !slices.Equal(joined(t, kept, others), l) {
					t.Fatalf("%v and %v are not %v", kept, others, l)
				}
			})
		}
	}
}

// P8.3, P8.6: a gap is not known, and the Horizon is just ahead of the first one.
func TestGapLaws(t *testing.T) {
	seed := dice(4)
	for range 30 {
		for _, at := range places() {
			r := seed.row()
			l := laid(r, at)
			ranged(at, func(i, j, from, to int) {
				var none row
				for k := i; k <= j; k++ {
					if r[k] == api.Unknown {
						none[k] = api.Lost
					}
				}
				want := laid(none, at)
				for k := range want {
					want[k].Is = api.Unknown
				}
				gaps, fault := span.Gaps(l, from, to)
				if fault != api.OK || !slices.Equal(gaps, want) {
					t.Fatalf("Gaps(%v, %d, %d): %v, error %d, wanted %v", l, from, to, gaps, fault, want)
				}
				ahead, fault := span.Horizon(l, from)
				if fault != api.OK || len(gaps) > 0 && ahead != gaps[0].From-1 || len(gaps) == 0 && ahead < to {
					t.Fatalf("Horizon(%v, %d): %d, error %d, gaps %v", l, from, ahead, fault, gaps)
				}
			})
		}
	}
}

// P3: what is handed in stays as it is, spare room too, and no answer lies in it.
func TestHandedInStays(t *testing.T) {
	spare := sp(77, 88, 99)
	for _, l := range rights() {
		roomy := append(slices.Clone(l), spare, spare, spare)
		in := roomy[:len(l)]
		other := append(spans(sp(2, 4, api.Lost)), spare, spare)[:1]
		for i, call := range []func() ([]api.Span, api.Errno){
			func() ([]api.Span, api.Errno) { return span.Join(in, nil) },
			func() ([]api.Span, api.Errno) { return span.Join(nil, in) },
			func() ([]api.Span, api.Errno) { return span.Join(in, in) },
			func() ([]api.Span, api.Errno) { return span.Join(in, other) },
			func() ([]api.Span, api.Errno) { return span.Join(other, in) },
			func() ([]api.Span, api.Errno) { return span.Keep(in, 1, last) },
			func() ([]api.Span, api.Errno) { return span.Keep(in, 2, 5) },
			func() ([]api.Span, api.Errno) { return span.Forget(in, 2, 5) },
			func() ([]api.Span, api.Errno) { return span.Forget(in, last, last) },
			func() ([]api.Span, api.Errno) { return span.Gaps(in, 1, last) },
		} {
			got, fault := call()
			again, _ := call()
			want := slices.Clone(again)
			clear(got[:cap(got)])
			if fault != api.OK || !slices.Equal(again, want) || !slices.Equal(in, l) || !slices.Equal(roomy[len(l):], spans(spare, spare, spare)) || !slices.Equal(other[:3], spans(sp(2, 4, api.Lost), spare, spare)) {
				t.Fatalf("call %d of %v: what was handed in, or answered, was changed", i, l)
			}
		}
		span.Right(in)
		span.At(in, 3)
		span.Count(in, api.Data)
		span.Horizon(in, 3)
		span.Put(in)
		if !slices.Equal(in, l) || !slices.Equal(roomy[len(l):], spans(spare, spare, spare)) {
			t.Fatalf("%v was changed", l)
		}
	}
	b, _ := span.Put(many(9))
	kept := bytes.Clone(b)
	got, _, _ := span.Take(b, 0)
	clear(got)
	again, _, _ := span.Take(b, 0)
	if !bytes.Equal(b, kept) || !slices.Equal(again, many(9)) {
		t.Fatal("bytes were changed")
	}
}
