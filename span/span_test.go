package span_test

import (
	"math"
	"slices"
	"testing"

	"grapevine/api"
	"grapevine/span"
)

const last = api.MaxTick

func sp(from, to int, is api.Know) api.Span { return api.Span{From: from, To: to, Is: is} }

func spans(l ...api.Span) []api.Span { return l }

// wrongs are maps that are not right.
func wrongs() [][]api.Span {
	return [][]api.Span{
		spans(sp(0, 2, api.Data)), spans(sp(-1, 2, api.Data)), spans(sp(math.MinInt, 2, api.Data)), spans(sp(0, 0, api.Data)), spans(api.Span{}), spans(sp(-5, -3, api.Lost)),
		spans(sp(3, 2, api.Data)), spans(sp(1, 0, api.Data)), spans(sp(5, math.MinInt, api.Data)), spans(sp(1, last+1, api.Data)), spans(sp(last+1, last+1, api.Data)), spans(sp(1, math.MaxInt, api.Data)), spans(sp(math.MaxInt, math.MaxInt, api.Lost)),
		spans(sp(1, 2, api.Unknown)), spans(sp(1, 2, api.Lost+1)), spans(sp(1, 2, -1)), spans(sp(1, 2, math.MaxInt)), spans(sp(1, 2, 1<<32+1)),
		// Not behind the one ahead, or not another one.
		spans(sp(1, 5, api.Data), sp(5, 6, api.Lost)), spans(sp(1, 5, api.Data), sp(1, 5, api.Lost)), spans(sp(1, 5, api.Data), sp(1, 5, api.Data)), spans(sp(4, 5, api.Data), sp(1, 2, api.Lost)), spans(sp(1, 5, api.Data), sp(2, 3, api.Lost)), spans(sp(1, 5, api.Data), sp(6, 8, api.Data)), spans(sp(1, 1, api.Lost), sp(2, 2, api.Lost)), spans(sp(1, 2, api.Silence), sp(3, last, api.Silence)), spans(sp(1, last, api.Data), sp(last+1, last+1, api.Lost)), spans(sp(1, math.MaxInt, api.Data), sp(math.MinInt, 3, api.Data)),
		// The last one of several.
		spans(sp(1, 2, api.Data), sp(4, 5, api.Data), sp(7, 8, api.Unknown)), spans(sp(1, 2, api.Data), sp(4, 5, api.Data), sp(6, 8, api.Data)), spans(sp(1, 2, api.Data), sp(4, 5, api.Data), api.Span{}), spans(sp(1, 2, api.Data), sp(4, 5, api.Data), sp(3, 3, api.Lost)), spans(sp(0, 1, api.Data), sp(4, 5, api.Data), sp(7, 7, api.Lost)),
	}
}

// rights are maps that are right.
func rights() [][]api.Span {
	return [][]api.Span{
		nil, {}, spans(sp(1, 1, api.Data)), spans(sp(1, 1, api.Silence)), spans(sp(1, 1, api.Lost)), spans(sp(1, last, api.Data)), spans(sp(last, last, api.Lost)), spans(sp(1, 5, api.Data), sp(6, 8, api.Lost)), spans(sp(1, 5, api.Data), sp(7, 8, api.Data)), spans(sp(1, 1, api.Data), sp(2, 2, api.Silence), sp(3, 3, api.Data), sp(4, 4, api.Lost)), spans(sp(2, 3, api.Lost), sp(last-1, last-1, api.Lost), sp(last, last, api.Data)), spans(sp(1, last-1, api.Silence), sp(last, last, api.Lost)),
		many(api.MaxSpans), many(api.MaxSpans + 1), many(5000),
	}
}

// many is a right map of n spans.
func many(n int) []api.Span {
	var l []api.Span
	for i := range n {
		l = append(l, sp(3*i+1, 3*i+2, api.Know(1+i%3)))
	}
	return l
}

// P8.1
func TestRight(t *testing.T) {
	for _, l := range rights() {
		if !span.Right(l) {
			t.Fatalf("Right(%v): false", l)
		}
	}
	for _, l := range wrongs() {
		if span.Right(l) {
			t.Fatalf("Right(%v): true", l)
		}
	}
}

// P8.1
func TestAt(t *testing.T) {
	l := spans(sp(2, 3, api.Data), sp(4, 4, api.Lost), sp(7, 9, api.Silence))
	for tick, want := range []api.Know{0, 0, api.Data, api.Data, api.Lost, 0, 0, api.Silence, api.Silence, api.Silence, 0} {
		if k := span.At(l, tick); k != want {
			t.Fatalf("At(%v, %d): %d, wanted %d", l, tick, k, want)
		}
	}
	for _, tick := range []int{-1, math.MinInt, math.MaxInt, last, last + 1} {
		if k := span.At(l, tick) + span.At(nil, tick); k != api.Unknown {
			t.Fatalf("At(%v, %d): %d", l, tick, k)
		}
	}
	// The first one, of any list.
	for _, c := range []struct {
		l    []api.Span
		t    int
		want api.Know
	}{
		{spans(sp(5, 9, api.Lost), sp(1, 7, api.Data)), 5, api.Lost}, {spans(sp(5, 9, api.Lost), sp(1, 7, api.Data)), 4, api.Data}, {spans(sp(1, 7, api.Data), sp(5, 9, api.Lost)), 5, api.Data}, {spans(sp(9, 5, api.Lost), sp(1, 9, api.Data)), 7, api.Data}, {spans(sp(1, 7, 99)), 5, 99}, {spans(sp(1, 7, api.Unknown), sp(1, 9, api.Data)), 5, api.Unknown}, {spans(sp(math.MinInt, math.MaxInt, api.Data)), 5, api.Data}, {spans(sp(last, last, api.Silence)), last, api.Silence},
	} {
		if k := span.At(c.l, c.t); k != c.want {
			t.Fatalf("At(%v, %d): %d, wanted %d", c.l, c.t, k, c.want)
		}
	}
}

// P8.1
func TestCount(t *testing.T) {
	for _, c := range []struct {
		l    []api.Span
		want [4]int
	}{
		{nil, [4]int{}}, {spans(sp(1, last, api.Data)), [4]int{0, last}}, {spans(sp(1, last-1, api.Lost), sp(last, last, api.Data)), [4]int{0, 1, 0, last - 1}}, {spans(sp(2, 2, api.Silence), sp(3, 3, api.Lost), sp(4, 9, api.Silence)), [4]int{0, 0, 7, 1}}, {spans(sp(2, 3, api.Data), sp(5, 7, api.Data), sp(9, 12, api.Data)), [4]int{0, 9}},
	} {
		for k := range api.Lost + 1 {
			if n := span.Count(c.l, k); n != c.want[k] {
				t.Fatalf("Count(%v, %d): %d, wanted %d", c.l, k, n, c.want[k])
			}
		}
		for _, k := range []api.Know{-1, 4, math.MaxInt, math.MinInt} {
			if n := span.Count(c.l, k); n != 0 {
				t.Fatalf("Count(%v, %d): %d", c.l, k, n)
			}
		}
	}
	for _, l := range wrongs() {
		for k := api.Know(-1); k <= api.Lost+1; k++ {
			if n := span.Count(l, k); n != 0 {
				t.Fatalf("Count(%v, %d): %d", l, k, n)
			}
		}
	}
}

// P8.2, and the chapter's example.
func TestJoin(t *testing.T) {
	for _, c := range []struct{ a, b, want []api.Span }{
		{spans(sp(1, 5, api.Data)), spans(sp(3, 9, api.Silence)), spans(sp(1, 2, api.Data), sp(3, 9, api.Silence))}, {nil, nil, nil}, {nil, spans(sp(3, 9, api.Lost)), spans(sp(3, 9, api.Lost))},
		{spans(sp(1, 5, api.Data)), spans(sp(6, 9, api.Data)), spans(sp(1, 9, api.Data))}, {spans(sp(1, 5, api.Data)), spans(sp(7, 9, api.Data)), spans(sp(1, 5, api.Data), sp(7, 9, api.Data))}, {spans(sp(1, 5, api.Data)), spans(sp(6, 9, api.Lost)), spans(sp(1, 5, api.Data), sp(6, 9, api.Lost))}, {spans(sp(1, 9, api.Data)), spans(sp(4, 5, api.Data)), spans(sp(1, 9, api.Data))}, {spans(sp(1, 9, api.Data)), spans(sp(4, 5, api.Lost)), spans(sp(1, 3, api.Data), sp(4, 5, api.Lost), sp(6, 9, api.Data))}, {spans(sp(1, 9, api.Lost)), spans(sp(4, 5, api.Silence)), spans(sp(1, 9, api.Lost))}, {spans(sp(1, 3, api.Data), sp(7, 9, api.Data)), spans(sp(4, 6, api.Data)), spans(sp(1, 9, api.Data))}, {spans(sp(1, 3, api.Lost), sp(7, 9, api.Lost)), spans(sp(2, 8, api.Silence)), spans(sp(1, 3, api.Lost), sp(4, 6, api.Silence), sp(7, 9, api.Lost))},
		{spans(sp(1, last, api.Data)), spans(sp(last, last, api.Silence)), spans(sp(1, last-1, api.Data), sp(last, last, api.Silence))}, {spans(sp(1, last-1, api.Data)), spans(sp(last, last, api.Data)), spans(sp(1, last, api.Data))}, {spans(sp(1, 1, api.Lost)), spans(sp(last, last, api.Data)), spans(sp(1, 1, api.Lost), sp(last, last, api.Data))}, {many(5000), many(5000), many(5000)}, {many(5000), nil, many(5000)}, {many(300), spans(sp(1, last, api.Lost)), spans(sp(1, last, api.Lost))},
	} {
		for _, x := range [][2][]api.Span{{c.a, c.b}, {c.b, c.a}} {
			if l, fault := span.Join(x[0], x[1]); fault != api.OK || !slices.Equal(l, c.want) {
				t.Fatalf("Join(%v, %v): %v, error %d, wanted %v", x[0], x[1], l, fault, c.want)
			}
		}
	}
	for _, l := range wrongs() {
		for _, x := range [][2][]api.Span{{l, nil}, {nil, l}, {l, l}, {l, many(3)}, {many(3), l}} {
			if got, fault := span.Join(x[0], x[1]); len(got) != 0 || fault != api.ErrArg {
				t.Fatalf("Join(%v, %v): %v, error %d", x[0], x[1], got, fault)
			}
		}
	}
}

// P8.2, P8.3: of wrong maps, and of ranges that may not be.
func TestRanges(t *testing.T) {
	calls := []func(l []api.Span, from, to int) ([]api.Span, api.Errno){span.Keep, span.Forget, span.Gaps}
	ranges := []struct {
		from, to int
		want     api.Errno
	}{
		{1, 1, api.OK}, {1, last, api.OK}, {last, last, api.OK}, {5, 5, api.OK}, {0, 1, api.ErrArg}, {0, 0, api.ErrArg}, {-1, 3, api.ErrArg}, {2, 1, api.ErrArg}, {last, last - 1, api.ErrArg}, {1, last + 1, api.ErrArg}, {last + 1, last + 1, api.ErrArg}, {math.MinInt, math.MaxInt, api.ErrArg}, {1, math.MaxInt, api.ErrArg}, {math.MaxInt, math.MinInt, api.ErrArg}, {math.MaxInt, math.MaxInt, api.ErrArg}, {1, math.MinInt, api.ErrArg},
	}
	for i, call := range calls {
		for _, r := range ranges {
			for _, l := range [][]api.Span{nil, many(3), spans(sp(1, last, api.Data))} {
				if got, fault := call(l, r.from, r.to); fault != r.want || fault != api.OK && len(got) != 0 {
					t.Fatalf("call %d of %v, from %d to %d: %v, error %d, wanted %d", i, l, r.from, r.to, got, fault, r.want)
				}
			}
			for _, l := range wrongs() {
				if got, fault := call(l, r.from, r.to); fault != api.ErrArg || len(got) != 0 {
					t.Fatalf("call %d of %v: %v, error %d", i, l, got, fault)
				}
			}
		}
	}
}

// P8.2: from 1 on, up to the last tick, and in the midst.
func TestKeepAndForget(t *testing.T) {
	l := spans(sp(2, 5, api.Data), sp(6, 9, api.Lost), sp(12, 14, api.Lost))
	whole := spans(sp(1, last, api.Silence))
	for _, c := range []struct {
		l            []api.Span
		from, to     int
		kept, others []api.Span
	}{
		{l, 1, last, l, nil}, {l, 2, 14, l, nil}, {l, 1, 1, nil, l}, {l, 10, 11, nil, l}, {l, 15, last, nil, l}, {l, last, last, nil, l}, {l, 3, 4, spans(sp(3, 4, api.Data)), spans(sp(2, 2, api.Data), sp(5, 5, api.Data), sp(6, 9, api.Lost), sp(12, 14, api.Lost))}, {l, 2, 5, l[:1], l[1:]}, {l, 5, 6, spans(sp(5, 5, api.Data), sp(6, 6, api.Lost)), spans(sp(2, 4, api.Data), sp(7, 9, api.Lost), sp(12, 14, api.Lost))}, {l, 9, 12, spans(sp(9, 9, api.Lost), sp(12, 12, api.Lost)), spans(sp(2, 5, api.Data), sp(6, 8, api.Lost), sp(13, 14, api.Lost))}, {l, 7, 7, spans(sp(7, 7, api.Lost)), spans(sp(2, 5, api.Data), sp(6, 6, api.Lost), sp(8, 9, api.Lost), sp(12, 14, api.Lost))}, {l, 1, 3, spans(sp(2, 3, api.Data)), spans(sp(4, 5, api.Data), sp(6, 9, api.Lost), sp(12, 14, api.Lost))},
		{whole, 1, last, whole, nil}, {whole, 1, 1, spans(sp(1, 1, api.Silence)), spans(sp(2, last, api.Silence))}, {whole, last, last, spans(sp(last, last, api.Silence)), spans(sp(1, last-1, api.Silence))}, {whole, 2, last - 1, spans(sp(2, last-1, api.Silence)), spans(sp(1, 1, api.Silence), sp(last, last, api.Silence))}, {nil, 3, 4, nil, nil},
	} {
		if got, fault := span.Keep(c.l, c.from, c.to); fault != api.OK || !slices.Equal(got, c.kept) {
			t.Fatalf("Keep(%v, %d, %d): %v, error %d, wanted %v", c.l, c.from, c.to, got, fault, c.kept)
		}
		if got, fault := span.Forget(c.l, c.from, c.to); fault != api.OK || !slices.Equal(got, c.others) {
			t.Fatalf("Forget(%v, %d, %d): %v, error %d, wanted %v", c.l, c.from, c.to, got, fault, c.others)
		}
	}
}

// P8.3, and the chapter's example.
func TestHorizon(t *testing.T) {
	l := spans(sp(1, 2, api.Data), sp(3, 9, api.Silence), sp(11, 11, api.Lost))
	for _, c := range []struct {
		l          []api.Span
		from, want int
	}{
		{l, 1, 9}, {l, 2, 9}, {l, 3, 9}, {l, 9, 9}, {l, 10, 9}, {l, 11, 11}, {l, 12, 11}, {l, 13, 12}, {l, last, last - 1}, {nil, 1, 0}, {nil, 7, 6}, {spans(sp(1, last, api.Data)), 1, last}, {spans(sp(1, last, api.Data)), last, last}, {spans(sp(last, last, api.Data)), last, last}, {spans(sp(last, last, api.Data)), last - 1, last - 2}, {spans(sp(5, 6, api.Data)), 1, 0}, {spans(sp(5, 6, api.Data)), 4, 3}, {spans(sp(5, 6, api.Data)), 6, 6},
	} {
		if n, fault := span.Horizon(c.l, c.from); fault != api.OK || n != c.want {
			t.Fatalf("Horizon(%v, %d): %d, error %d, wanted %d", c.l, c.from, n, fault, c.want)
		}
	}
	for _, from := range []int{0, -1, last + 1, math.MaxInt, math.MinInt} {
		if n, fault := span.Horizon(l, from); n != 0 || fault != api.ErrArg {
			t.Fatalf("Horizon from %d: %d, error %d", from, n, fault)
		}
	}
	for _, l := range wrongs() {
		for _, from := range []int{1, 5, last} {
			if n, fault := span.Horizon(l, from); n != 0 || fault != api.ErrArg {
				t.Fatalf("Horizon(%v, %d): %d, error %d", l, from, n, fault)
			}
		}
	}
}

// P8.3, and the chapter's example.
func TestGaps(t *testing.T) {
	l := spans(sp(1, 2, api.Data), sp(3, 9, api.Silence), sp(12, 13, api.Lost), sp(16, 16, api.Lost))
	for _, c := range []struct {
		l        []api.Span
		from, to int
		want     []api.Span
	}{
		{l[:2], 5, 12, spans(sp(10, 12, 0))}, {l, 1, 9, nil}, {l, 1, 10, spans(sp(10, 10, 0))}, {l, 10, 11, spans(sp(10, 11, 0))}, {l, 11, 15, spans(sp(11, 11, 0), sp(14, 15, 0))}, {l, 1, last, spans(sp(10, 11, 0), sp(14, 15, 0), sp(17, last, 0))}, {l, 12, 13, nil}, {l, last, last, spans(sp(last, last, 0))}, {nil, 1, last, spans(sp(1, last, 0))}, {nil, 4, 6, spans(sp(4, 6, 0))}, {spans(sp(1, last, api.Data)), 1, last, nil}, {spans(sp(2, last, api.Data)), 1, last, spans(sp(1, 1, 0))}, {spans(sp(1, last-1, api.Data)), last, last, spans(sp(last, last, 0))}, {spans(sp(5, 5, api.Data)), 1, 4, spans(sp(1, 4, 0))}, {spans(sp(5, 5, api.Data)), 6, 8, spans(sp(6, 8, 0))}, {spans(sp(5, 5, api.Data)), 4, 6, spans(sp(4, 4, 0), sp(6, 6, 0))},
	} {
		if got, fault := span.Gaps(c.l, c.from, c.to); fault != api.OK || !slices.Equal(got, c.want) {
			t.Fatalf("Gaps(%v, %d, %d): %v, error %d, wanted %v", c.l, c.from, c.to, got, fault, c.want)
		}
	}
}
