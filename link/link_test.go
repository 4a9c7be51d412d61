package link_test

import (
	"bytes"
	"math"
	"slices"
	"testing"

	"grapevine/api"
	"grapevine/link"
	"grapevine/octet"
	"grapevine/parcel"
	"grapevine/seal"
)

// Kinds of frames.
const (
	mail   = 1
	probe  = 2
	answer = 3
)

func wantErr(t *testing.T, call string, got, want api.Errno) {
	t.Helper()
	if got != want {
		t.Fatalf("%s: error %d, wanted %d", call, got, want)
	}
}

func mustNew(t *testing.T, life, queue int) *link.Link {
	t.Helper()
	l, fault := link.New(life, queue)
	if fault != api.OK || l == nil {
		t.Fatalf("New(%d, %d): error %d", life, queue, fault)
	}
	return l
}

func mustSend(t *testing.T, l *link.Link, p api.Parcel) {
	t.Helper()
	wantErr(t, "Send", l.Send(p), api.OK)
}

func mustPull(t *testing.T, l *link.Link) []byte {
	t.Helper()
	b, ok := l.Pull()
	if !ok {
		t.Fatal("Pull: none")
	}
	return b
}

func noPull(t *testing.T, l *link.Link) {
	t.Helper()
	if b, ok := l.Pull(); ok || len(b) != 0 {
		t.Fatalf("Pull: % x, %v, wanted none", b, ok)
	}
}

func wantWaits(t *testing.T, l *link.Link, want int) {
	t.Helper()
	if got := l.Waits(); got != want {
		t.Fatalf("%d wait, wanted %d", got, want)
	}
}

func wantLives(t *testing.T, l *link.Link, own, other int) {
	t.Helper()
	if a, b := l.Lives(); a != own || b != other {
		t.Fatalf("Lives: %d, %d, wanted %d, %d", a, b, own, other)
	}
}

// wantTake: a frame is taken, with a parcel.
func wantTake(t *testing.T, l *link.Link, b []byte, now int, want api.Parcel) {
	t.Helper()
	p, ok, fault := l.Take(b, now)
	if fault != api.OK || !ok || !same(p, want) {
		t.Fatalf("Take of % x: %+v, %v, error %d, wanted %+v", b, p, ok, fault, want)
	}
}

// wantNone: Take tells no parcel, and an error or none.
func wantNone(t *testing.T, l *link.Link, b []byte, now int, want api.Errno) {
	t.Helper()
	p, ok, fault := l.Take(b, now)
	if fault != want || ok || !same(p, api.Parcel{}) {
		t.Fatalf("Take of % x: %+v, %v, error %d, wanted error %d", b, p, ok, fault, want)
	}
}

func same(p, q api.Parcel) bool {
	return p.Kind == q.Kind && p.Pub == q.Pub && p.Sub == q.Sub && p.N == q.N && p.From == q.From && p.To == q.To &&
		slices.Equal(p.Spans, q.Spans) && slices.EqualFunc(p.Items, q.Items, sameItem)
}

func sameItem(a, b api.Item) bool {
	return a.Tick == b.Tick && a.For == b.For && bytes.Equal(a.Body, b.Body)
}

// want is a parcel that asks for ticks up to one, by which it is told from others.
func want(to int) api.Parcel { return api.Parcel{Kind: api.Want, Pub: 1, From: 1, To: to} }

// news is a parcel with lists.
func news() api.Parcel {
	return api.Parcel{Kind: api.Tell, Pub: 2, From: 1, To: 9, Spans: []api.Span{{From: 1, To: 4, Is: api.Silence}}, Items: []api.Item{{Tick: 5, For: 3, Body: []byte("ab")}}}
}

// numbers are the first bytes of a frame's body.
func numbers(life, knows, number uint64) []byte {
	return slices.Concat(octet.Uint(life), octet.Uint(knows), octet.Uint(number))
}

// sealed is a frame of any kind and body.
func sealed(t *testing.T, kind byte, parts ...[]byte) []byte {
	t.Helper()
	b, fault := seal.Seal(kind, slices.Concat(parts...))
	wantErr(t, "Seal", fault, api.OK)
	return b
}

// of is the frame of a parcel.
func of(t *testing.T, p api.Parcel, life, knows, number uint64) []byte {
	t.Helper()
	b, fault := parcel.Put(p)
	wantErr(t, "Put", fault, api.OK)
	return sealed(t, mail, numbers(life, knows, number), b)
}

// P14.1
func TestNew(t *testing.T) {
	for _, c := range []struct {
		life, queue int
		want        api.Errno
	}{
		{1, 1, api.OK}, {api.MaxNumber, api.MaxQueue, api.OK}, {7, 2, api.OK},
		{0, 1, api.ErrArg}, {-1, 1, api.ErrArg}, {api.MaxNumber + 1, 1, api.ErrArg}, {math.MaxInt, 1, api.ErrArg}, {math.MinInt, 1, api.ErrArg}, {1<<32 + 1, 1, api.ErrArg},
		{1, 0, api.ErrArg}, {1, -1, api.ErrArg}, {1, api.MaxQueue + 1, api.ErrArg}, {1, math.MaxInt, api.ErrArg}, {1, math.MinInt, api.ErrArg}, {1, 1<<32 + 1, api.ErrArg},
		{0, 0, api.ErrArg},
	} {
		l, fault := link.New(c.life, c.queue)
		if fault != c.want || (l == nil) != (fault != api.OK) {
			t.Fatalf("New(%d, %d): error %d, wanted %d", c.life, c.queue, fault, c.want)
		}
		if l != nil {
			wantLives(t, l, c.life, 0)
			wantWaits(t, l, 0)
			noPull(t, l)
			if l.Alive(0) || l.Alive(-1) || l.Alive(math.MinInt) {
				t.Fatal("it is alive, and heard nothing")
			}
		}
	}
}

// P14.1, and the example: the bytes of frames.
func TestFrameBytes(t *testing.T) {
	l := mustNew(t, 3, 4)
	mustSend(t, l, want(300))
	wantErr(t, "Probe", l.Probe(), api.OK)
	first, second := mustPull(t, l), mustPull(t, l)
	if !bytes.Equal(first, sealed(t, 1, []byte("\x03\x00\x01"), []byte("\x02\x01\x01\xac\x02"))) {
		t.Fatalf("the first frame: % x", first)
	}
	if !bytes.Equal(second, sealed(t, 2, []byte("\x03\x00\x02"))) {
		t.Fatalf("a probe: % x", second)
	}
	wantNone(t, l, sealed(t, probe, numbers(300, 3, 9)), 5, api.OK)
	if got := mustPull(t, l); !bytes.Equal(got, sealed(t, 3, []byte("\x03\xac\x02\x03"))) {
		t.Fatalf("an answer: % x", got)
	}
}

// P14.1, P14.6: what waits comes out in its order, and never more than queue wait.
func TestQueue(t *testing.T) {
	for _, queue := range []int{1, 2, 5, api.MaxQueue} {
		l := mustNew(t, 1, queue)
		for i := range queue {
			wantWaits(t, l, i)
			mustSend(t, l, want(1+i))
		}
		for range 2 {
			wantErr(t, "Send", l.Send(want(99)), api.ErrFull)
			wantErr(t, "Probe", l.Probe(), api.ErrFull)
			wantWaits(t, l, queue)
		}
		for i := range 3 * queue {
			if got := mustPull(t, l); !bytes.Equal(got, of(t, want(1+i), 1, 0, uint64(1+i))) {
				t.Fatalf("frame %d of a queue of %d: % x", i, queue, got)
			}
			wantWaits(t, l, queue-1)
			mustSend(t, l, want(1+queue+i))
		}
		for i := range queue {
			wantWaits(t, l, queue-i)
			mustPull(t, l)
		}
		wantWaits(t, l, 0)
		noPull(t, l)
	}
}

// P14.1: what parcel says goes ahead of a full queue; nothing waits behind an error.
func TestSendFaults(t *testing.T) {
	wrong := []struct {
		p    api.Parcel
		want api.Errno
	}{
		{api.Parcel{}, api.ErrType}, {want(0), api.ErrArg}, {api.Parcel{Kind: api.Join}, api.ErrArg},
		{api.Parcel{Kind: api.Tell, From: 1, To: 1, Items: make([]api.Item, 9)}, api.ErrLimit},
		{api.Parcel{Kind: api.Tell, From: 1, To: 1, Spans: make([]api.Span, 1)}, api.ErrForm},
		{api.Parcel{Kind: api.Tell, From: 1, To: 1, Items: make([]api.Item, 1)}, api.ErrTick},
	}
	l := mustNew(t, 1, 1)
	for _, c := range wrong {
		wantErr(t, "Send", l.Send(c.p), c.want)
		wantWaits(t, l, 0)
	}
	mustSend(t, l, want(1))
	for _, c := range wrong {
		wantErr(t, "Send", l.Send(c.p), c.want)
	}
	wantErr(t, "Send", l.Send(want(2)), api.ErrFull)
	wantWaits(t, l, 1)
}

// P14.1: a frame has the lives as they are when it is pulled, and what is sent is taken plain.
func TestLivesAsTheyAre(t *testing.T) {
	x, y := mustNew(t, 3, 9), mustNew(t, 7, 9)
	mustSend(t, x, want(5))
	p := api.Parcel{Kind: api.Leave, Pub: 1, Sub: 2, N: 3, From: 4, To: 5, Spans: make([]api.Span, 99)}
	mustSend(t, x, p)
	first := mustPull(t, x)
	wantErr(t, "Probe", y.Probe(), api.OK)
	wantNone(t, x, mustPull(t, y), 1, api.OK)
	second := mustPull(t, x)
	if !bytes.Equal(first, of(t, want(5), 3, 0, 1)) || !bytes.Equal(second, of(t, p, 3, 7, 2)) {
		t.Fatalf("frames % x and % x", first, second)
	}
	wantTake(t, y, second, 1, parcel.Plain(p))
	wantTake(t, y, first, 1, want(5))
}

// P14.2: each error in its order; with an error all stays as it was.
func TestTakeFaults(t *testing.T) {
	whole := of(t, want(5), 2, 0, 1)
	spoilt := bytes.Clone(whole)
	spoilt[5] ^= 1
	rest, _ := parcel.Put(want(5))
	nine := bytes.Repeat([]byte{0x80}, 9)
	for _, c := range []struct {
		b    []byte
		now  int
		want api.Errno
	}{
		{whole, -1, api.ErrArg}, {whole, api.MaxTick + 1, api.ErrArg}, {whole, math.MaxInt, api.ErrArg}, {whole, math.MinInt, api.ErrArg}, {nil, -1, api.ErrArg},
		{nil, 0, api.ErrShort}, {whole[:3], 0, api.ErrShort}, {whole[:len(whole)-1], 0, api.ErrShort},
		{whole[1:], 0, api.ErrForm}, {[]byte{0}, 0, api.ErrForm}, {append([]byte{0}, whole...), 0, api.ErrForm},
		{[]byte{0xa7, 1, 1, 0x10}, 0, api.ErrLimit},
		{spoilt, 0, api.ErrSum}, {append(bytes.Clone(spoilt), 0), 0, api.ErrSum},
		{append(bytes.Clone(whole), 0), 0, api.ErrForm}, {append(bytes.Clone(whole), whole...), 0, api.ErrForm},
		{append(sealed(t, 0), 0), 0, api.ErrForm},
		{sealed(t, 0), 0, api.ErrType}, {sealed(t, 4), 0, api.ErrType}, {sealed(t, 255, numbers(2, 0, 1)), 0, api.ErrType}, {sealed(t, 0, numbers(2, 0, 1), rest), 0, api.ErrType},
		{sealed(t, mail, numbers(0, 0, 1), rest), 0, api.ErrLimit},
		{sealed(t, mail, numbers(1<<30+1, 0, 1), rest), 0, api.ErrLimit},
		{sealed(t, mail, numbers(1<<63, 0, 1), rest), 0, api.ErrLimit},
		{sealed(t, mail, numbers(math.MaxUint64, 0, 1), rest), 0, api.ErrLimit},
		{sealed(t, mail, numbers(2, 1<<30+1, 1), rest), 0, api.ErrLimit},
		{sealed(t, mail, numbers(2, math.MaxUint64, 1), rest), 0, api.ErrLimit},
		{sealed(t, mail, numbers(2, 0, 0), rest), 0, api.ErrLimit},
		{sealed(t, mail, numbers(2, 0, 1<<40+1), rest), 0, api.ErrLimit},
		{sealed(t, mail, numbers(2, 0, math.MaxUint64), rest), 0, api.ErrLimit},
		{sealed(t, mail, numbers(0, 0, 1)), 0, api.ErrLimit},
		{sealed(t, mail, numbers(2, 0, 0), []byte{9}), 0, api.ErrLimit},
		{sealed(t, mail, numbers(2, 0, 1)), 0, api.ErrShort},
		{sealed(t, mail, numbers(2, 0, 1), []byte{7}), 0, api.ErrType},
		{sealed(t, mail, numbers(2, 0, 1), rest[:3]), 0, api.ErrShort},
		{sealed(t, mail, numbers(2, 0, 1), rest, []byte{0}), 0, api.ErrForm},
		{sealed(t, mail, numbers(2, 0, 1), []byte("\x02\x03\x01\x01")), 0, api.ErrArg},
		{sealed(t, mail, numbers(2, 0, 1), []byte("\x02\x00\x01"), octet.Uint(1<<41)), 0, api.ErrLimit},
		{sealed(t, mail, numbers(2, 0, 1), []byte("\x01\x00\x01\x01\x00\x01\x02\x00\x00")), 0, api.ErrTick},
		{sealed(t, mail, numbers(2, 9, 1), []byte{7}), 0, api.ErrType},
		{sealed(t, mail, numbers(2, 9, 1)), 0, api.ErrShort},
		{sealed(t, mail, nine, []byte{2}), 0, api.ErrLimit},
	} {
		l := mustNew(t, 5, 1)
		wantNone(t, l, c.b, c.now, c.want)
		wantLives(t, l, 5, 0)
		if l.Alive(0) || l.Waits() != 0 {
			t.Fatalf("error %d of % x, and it heard", c.want, c.b)
		}
		wantTake(t, l, whole, 0, want(5))
	}
}

// P14.2: octet's error of each of the three numbers goes ahead of their limits, of all kinds.
func TestTakeNumbers(t *testing.T) {
	great := octet.Uint(1 << 41)
	one := []byte{1}
	bad := []struct {
		b    []byte
		want api.Errno
	}{{nil, api.ErrShort}, {[]byte{0x80}, api.ErrShort}, {[]byte{0x80, 0}, api.ErrForm}, {append(bytes.Repeat([]byte{0x80}, 9), 2), api.ErrLimit}}
	l := mustNew(t, 5, 1)
	for _, kind := range []byte{mail, probe, answer} {
		for _, c := range bad {
			for _, ahead := range [][]byte{one, great} {
				wantNone(t, l, sealed(t, kind, c.b), 0, c.want)
				wantNone(t, l, sealed(t, kind, ahead, c.b), 0, c.want)
				wantNone(t, l, sealed(t, kind, ahead, one, c.b), 0, c.want)
				wantNone(t, l, sealed(t, kind, one, ahead, c.b), 0, c.want)
			}
		}
		wantNone(t, l, sealed(t, kind, great, one, one, one), 0, api.ErrLimit)
	}
	wantLives(t, l, 5, 0)
}

// P14.2: the numbers at their limits.
func TestTakeLimits(t *testing.T) {
	l := mustNew(t, api.MaxNumber, 1)
	wantTake(t, l, of(t, want(1), 1, 0, 1), 0, want(1))
	wantTake(t, l, of(t, want(2), 1, api.MaxNumber, api.MaxFrames), api.MaxTick, want(2))
	wantTake(t, l, of(t, want(3), api.MaxNumber, 0, api.MaxFrames), 0, want(3))
	wantNone(t, l, of(t, want(3), api.MaxNumber, 0, api.MaxFrames), 0, api.ErrKnown)
	wantLives(t, l, api.MaxNumber, api.MaxNumber)
}

// P14.2: probes and answers have nothing behind their numbers; a probe is answered.
func TestProbes(t *testing.T) {
	l := mustNew(t, 5, 2)
	for _, kind := range []byte{probe, answer} {
		wantNone(t, l, sealed(t, kind, numbers(2, 0, 1), []byte{0}), 0, api.ErrForm)
		wantNone(t, l, sealed(t, kind, numbers(2, 9, 1), []byte("\x02\x01\x01\x05")), 0, api.ErrForm)
	}
	wantLives(t, l, 5, 0)
	wantNone(t, l, sealed(t, answer, numbers(2, 0, 1)), 9, api.OK)
	wantWaits(t, l, 0)
	if !l.Alive(9) {
		t.Fatal("an answer is not heard")
	}
	wantNone(t, l, sealed(t, probe, numbers(2, 5, 2)), 9, api.OK)
	wantNone(t, l, sealed(t, probe, numbers(2, 5, 3)), 9, api.OK)
	wantWaits(t, l, 2)
	// A third one finds no room for its answer, but is taken and heard.
	wantNone(t, l, sealed(t, probe, numbers(2, 5, 4)), 99, api.OK)
	wantWaits(t, l, 2)
	wantNone(t, l, sealed(t, probe, numbers(2, 5, 4)), 99, api.ErrKnown)
	if !l.Alive(99 + api.MaxQuiet) {
		t.Fatal("a probe is not heard")
	}
	for n := range uint64(2) {
		if got := mustPull(t, l); !bytes.Equal(got, sealed(t, answer, numbers(5, 2, 1+n))) {
			t.Fatalf("answer %d: % x", n, got)
		}
	}
	noPull(t, l)
}

// P14.2: frames of an earlier life are stale, ahead of all else that the link has of it.
func TestEarlierLife(t *testing.T) {
	l := mustNew(t, 5, 2)
	wantTake(t, l, of(t, want(1), 7, 0, 3), 4, want(1))
	for _, number := range []uint64{1, 3, 4, 99} {
		for _, knows := range []uint64{0, 5, 6} {
			wantNone(t, l, of(t, want(2), 6, knows, number), 80, api.ErrStale)
			wantNone(t, l, sealed(t, probe, numbers(1, knows, number)), 80, api.ErrStale)
		}
	}
	wantLives(t, l, 5, 7)
	wantWaits(t, l, 0)
	if l.Alive(69) || !l.Alive(68) {
		t.Fatal("a stale frame is heard")
	}
	wantTake(t, l, of(t, want(4), 7, 0, 4), 4, want(4))
}

// P14.2: of a later life no number was taken, and the earlier one's are not looked at any more.
func TestLaterLife(t *testing.T) {
	l := mustNew(t, 5, 2)
	wantTake(t, l, of(t, want(1), 7, 0, 100), 0, want(1))
	wantNone(t, l, of(t, want(1), 7, 0, 36), 0, api.ErrKnown)
	wantTake(t, l, of(t, want(2), 9, 0, 36), 0, want(2))
	wantLives(t, l, 5, 9)
	wantTake(t, l, of(t, want(3), 9, 5, 100), 0, want(3))
	wantNone(t, l, of(t, want(3), 9, 5, 36), 0, api.ErrKnown)
	wantTake(t, l, of(t, want(4), 9, 5, 37), 0, want(4))
	wantNone(t, l, of(t, want(5), 8, 5, 101), 0, api.ErrStale)
	wantNone(t, l, of(t, want(5), 7, 5, 101), 0, api.ErrStale)
}

// P14.2: a frame for another life of this end is stale, but the sender's life is known from it.
func TestForAnotherLife(t *testing.T) {
	l := mustNew(t, 5, 2)
	for _, knows := range []uint64{1, 4, 6, api.MaxNumber} {
		wantNone(t, l, of(t, want(1), 7, knows, 1), 3, api.ErrStale)
		wantLives(t, l, 5, 7)
	}
	if l.Alive(3) {
		t.Fatal("a stale frame is heard")
	}
	// It was not taken: the same number comes still.
	wantTake(t, l, of(t, want(1), 7, 5, 1), 3, want(1))
	wantNone(t, l, of(t, want(1), 7, 6, 1), 3, api.ErrStale)
	wantTake(t, l, of(t, want(2), 7, 5, 90), 3, want(2))
	// A later life that comes with an error has no numbers, either.
	wantNone(t, l, sealed(t, probe, numbers(8, 6, 90)), 3, api.ErrStale)
	wantLives(t, l, 5, 8)
	wantWaits(t, l, 0)
	wantNone(t, l, of(t, want(3), 7, 5, 91), 3, api.ErrStale)
	wantTake(t, l, of(t, want(4), 8, 0, 1), 3, want(4))
}

// P14.2: which numbers are still told apart.
func TestWindow(t *testing.T) {
	for _, greatest := range []uint64{1, 2, 63, 64, 65, 66, 1000, 1 << 32, api.MaxFrames} {
		l := mustNew(t, 5, 2)
		wantTake(t, l, of(t, want(1), 7, 0, greatest), 0, want(1))
		for below := range uint64(200) {
			if below >= greatest {
				break
			}
			b := of(t, want(2), 7, 0, greatest-below)
			if below == 0 || below >= 64 {
				wantNone(t, l, b, 0, api.ErrKnown)
				continue
			}
			wantTake(t, l, b, 0, want(2))
			wantNone(t, l, b, 0, api.ErrKnown)
		}
	}
}

// P14.2: how far the greatest number goes on, what was taken stays taken.
func TestWindowMoves(t *testing.T) {
	for step := uint64(1); step < 140; step++ {
		l := mustNew(t, 5, 2)
		for _, number := range []uint64{100, 137, 163} {
			wantTake(t, l, of(t, want(1), 7, 0, number), 0, want(1))
		}
		greatest := 163 + step
		wantTake(t, l, of(t, want(1), 7, 0, greatest), 0, want(1))
		for number := uint64(90); number <= greatest; number++ {
			b := of(t, want(1), 7, 0, number)
			if slices.Contains([]uint64{100, 137, 163, greatest}, number) || number+64 <= greatest {
				wantNone(t, l, b, 0, api.ErrKnown)
			} else {
				wantTake(t, l, b, 0, want(1))
			}
		}
	}
}

// P14.3
func TestAlive(t *testing.T) {
	for _, now := range []int{0, 1, 63, 64, 65, 1000, api.MaxTick} {
		l := mustNew(t, 5, 1)
		wantTake(t, l, of(t, want(1), 7, 0, 1), now, want(1))
		for _, c := range []struct {
			at   int
			want bool
		}{
			{now, true}, {now + 1, true}, {now + api.MaxQuiet, true}, {now + api.MaxQuiet + 1, false}, {now + 1<<33, false}, {math.MaxInt, false},
			{now - 1, true}, {0, now+api.MaxQuiet >= 0}, {-1, true}, {math.MinInt, true},
		} {
			if got := l.Alive(c.at); got != c.want {
				t.Fatalf("heard at %d, Alive(%d): %v", now, c.at, got)
			}
		}
	}
}

// P14.2: what is heard late does not put the last tick back.
func TestHeardLater(t *testing.T) {
	l := mustNew(t, 5, 1)
	wantTake(t, l, of(t, want(1), 7, 0, 1), 100, want(1))
	wantTake(t, l, of(t, want(1), 7, 0, 2), 30, want(1))
	wantTake(t, l, of(t, want(1), 8, 0, 1), 0, want(1))
	if !l.Alive(164) || l.Alive(165) {
		t.Fatal("it did not hear last at 100")
	}
	wantNone(t, l, of(t, want(1), 8, 0, 1), 200, api.ErrKnown)
	if l.Alive(165) {
		t.Fatal("a frame that is known is heard")
	}
	wantTake(t, l, of(t, want(1), 8, 0, 2), 101, want(1))
	if !l.Alive(165) || l.Alive(166) {
		t.Fatal("it did not hear last at 101")
	}
}

// P1, P14.1 to P14.3: nil.
func TestNil(t *testing.T) {
	var l *link.Link
	wantErr(t, "Send", l.Send(want(1)), api.ErrNil)
	wantErr(t, "Send", l.Send(api.Parcel{}), api.ErrNil)
	wantErr(t, "Probe", l.Probe(), api.ErrNil)
	wantNone(t, l, of(t, want(1), 7, 0, 1), 0, api.ErrNil)
	wantNone(t, l, nil, -1, api.ErrNil)
	noPull(t, l)
	wantLives(t, l, 0, 0)
	wantWaits(t, l, 0)
	if l.Alive(0) || l.Alive(math.MinInt) || l.Fork() != nil {
		t.Fatal("nil is something")
	}
}

// P3: what is handed in is neither changed nor kept; what is answered is new.
func TestMemory(t *testing.T) {
	x, y := mustNew(t, 1, 9), mustNew(t, 2, 9)
	p := news()
	mustSend(t, x, p)
	if !same(p, news()) {
		t.Fatal("Send changed a parcel")
	}
	p.Spans[0].To, p.Items[0].Tick = 1, 2
	clear(p.Items[0].Body)
	other := x.Fork()
	b, c := mustPull(t, x), mustPull(t, other)
	if !bytes.Equal(b, of(t, news(), 1, 0, 1)) {
		t.Fatal("a parcel is kept where it was handed in")
	}
	room := append(bytes.Clone(b), "behind it"...)
	before := bytes.Clone(room)
	got, _, _ := y.Take(room[:len(b)], 1)
	if !bytes.Equal(room, before) {
		t.Fatal("Take changed a frame")
	}
	clear(room)
	clear(b)
	if !same(got, news()) {
		t.Fatal("a parcel lies in the frame")
	}
	if !bytes.Equal(c, of(t, news(), 1, 0, 1)) {
		t.Fatal("two frames lie in one another")
	}
}

// P4, P14.3: a fork goes its own way.
func TestFork(t *testing.T) {
	l := mustNew(t, 5, 3)
	mustSend(t, l, want(1))
	mustSend(t, l, want(2))
	wantTake(t, l, of(t, want(1), 7, 0, 70), 10, want(1))
	one, two := l.Fork(), l.Fork()
	for _, f := range []*link.Link{l, one, two} {
		wantLives(t, f, 5, 7)
		wantWaits(t, f, 2)
	}
	mustSend(t, one, want(30))
	mustSend(t, two, want(40))
	wantErr(t, "Send", two.Send(want(50)), api.ErrFull)
	mustPull(t, l)
	wantTake(t, one, of(t, want(1), 8, 0, 1), 99, want(1))
	wantTake(t, two, of(t, want(1), 7, 0, 69), 10, want(1))
	wantTake(t, l, of(t, want(1), 7, 0, 68), 10, want(1))
	wantLives(t, two, 5, 7)
	if !one.Alive(163) || two.Alive(75) || !two.Alive(74) {
		t.Fatal("a fork heard what another one did")
	}
	wantTake(t, two, of(t, want(1), 7, 0, 68), 10, want(1))
	for i, c := range []struct {
		l     *link.Link
		tos   []int
		knows uint64
	}{{one, []int{1, 2, 30}, 8}, {two, []int{1, 2, 40}, 7}} {
		for k, to := range c.tos {
			if got := mustPull(t, c.l); !bytes.Equal(got, of(t, want(to), 5, c.knows, uint64(1+k))) {
				t.Fatalf("fork %d, frame %d: % x", i, k, got)
			}
		}
		noPull(t, c.l)
	}
	if got := mustPull(t, l); !bytes.Equal(got, of(t, want(2), 5, 7, 2)) {
		t.Fatalf("the first one's frame: % x", got)
	}
	noPull(t, l)
}
