package link_test

import (
	"bytes"
	"slices"
	"testing"

	"grapevine/api"
	"grapevine/link"
	"grapevine/parcel"
)

// dice are numbers that look like chance, the same ones each time.
type dice uint64

// roll is a number from 0 to n - 1.
func (d *dice) roll(n int) int {
	*d = *d*6364136223846793005 + 1442695040888963407
	return int(uint64(*d)>>31) % n
}

// parcel is one of any kind, which is told from others by its number.
func (d *dice) parcel(n int) api.Parcel {
	p := api.Parcel{Kind: api.Mail(1 + d.roll(6)), Pub: d.roll(3), Sub: 1 + d.roll(32), N: 1 + n, From: 1 + n, To: 1 + n + d.roll(50)}
	if p.Kind == api.Tell {
		p.Items = []api.Item{{Tick: p.To, For: uint32(n), Body: bytes.Repeat([]byte{byte(n)}, d.roll(30))}}
	}
	return p
}

// told is what a frame says, ahead of its being put into bytes.
type told struct {
	kind                byte
	life, knows, number int
	parcel              api.Parcel
}

func (f told) bytes(t *testing.T) []byte {
	t.Helper()
	if f.kind == mail {
		return of(t, f.parcel, uint64(f.life), uint64(f.knows), uint64(f.number))
	}
	return sealed(t, f.kind, numbers(uint64(f.life), uint64(f.knows), uint64(f.number)))
}

// end is a link once more, as the document says it.
type end struct {
	life, queue, other, last, heard int
	waits                           []told
	taken                           map[int]int
}

func (e *end) wait(f told) api.Errno {
	if len(e.waits) == e.queue {
		return api.ErrFull
	}
	e.waits = append(e.waits, f)
	return api.OK
}

func (e *end) pull() (told, bool) {
	if len(e.waits) == 0 {
		return told{}, false
	}
	f := e.waits[0]
	e.waits = e.waits[1:]
	e.last++
	f.life, f.knows, f.number = e.life, e.other, e.last
	return f, true
}

// take is Take of a frame that may be.
func (e *end) take(f told, now int) api.Errno {
	if f.life < e.other {
		return api.ErrStale
	}
	if f.life > e.other {
		e.other, e.taken = f.life, map[int]int{}
	}
	if f.knows != 0 && f.knows != e.life {
		return api.ErrStale
	}
	for number := range e.taken {
		if number == f.number || number-f.number >= 64 {
			return api.ErrKnown
		}
	}
	e.taken[f.number]++
	e.heard = max(e.heard, now)
	if f.kind == probe {
		e.wait(told{kind: answer})
	}
	return api.OK
}

// hold holds all that a link tells against it.
func (e *end) hold(t *testing.T, l *link.Link) {
	t.Helper()
	wantLives(t, l, e.life, e.other)
	wantWaits(t, l, len(e.waits))
	if len(e.waits) > e.queue {
		t.Fatalf("%d wait of %d", len(e.waits), e.queue)
	}
	heard := e.heard >= 0
	if l.Alive(max(e.heard, 0)+64) != heard || l.Alive(e.heard+65) {
		t.Fatalf("heard at %d: Alive tells another thing", e.heard)
	}
}

// frame is one of a number near those that an end took, of lives near those that it knows.
func (d *dice) frame(e *end, n int) told {
	f := told{kind: byte(1 + d.roll(3)), life: max(1, e.other), number: 1 + d.roll(200)}
	switch d.roll(30) {
	case 0:
		f.life++
	case 1:
		f.life = max(1, e.other-1)
	}
	switch d.roll(6) {
	case 0:
		f.knows = e.life
	case 1:
		f.knows = max(0, e.life+d.roll(3)-1)
	}
	greatest := 0
	for number := range e.taken {
		greatest = max(greatest, number)
	}
	if d.roll(5) > 0 {
		f.number = max(1, greatest+d.roll(80)-70)
	}
	if d.roll(200) == 0 {
		f.number = greatest + 1 + d.roll(1<<30)
	}
	if f.kind == mail {
		f.parcel = d.parcel(n)
	}
	return f
}

// P14.1 to P14.3, P14.6: many calls of all kinds, each held against the document's words; now and then a fork goes on.
func TestAgainstTheWords(t *testing.T) {
	seen := map[api.Errno]int{}
	for run := range 300 {
		chance := dice(run)
		life, queue := 1+chance.roll(5), 1+chance.roll(api.MaxQueue)
		l, e := mustNew(t, life, queue), &end{life: life, queue: queue, heard: -1}
		for n := range 300 {
			switch chance.roll(8) {
			case 0, 1:
				p := chance.parcel(n)
				wantErr(t, "Send", l.Send(p), e.wait(told{kind: mail, parcel: p}))
			case 2:
				wantErr(t, "Probe", l.Probe(), e.wait(told{kind: probe}))
			case 3:
				if f, ok := e.pull(); !ok {
					noPull(t, l)
				} else if got := mustPull(t, l); !bytes.Equal(got, f.bytes(t)) {
					t.Fatalf("Pull: % x, wanted %+v", got, f)
				}
			case 4:
				l = l.Fork()
			default:
				f, now := chance.frame(e, n), chance.roll(1000)
				want := e.take(f, now)
				seen[want]++
				if want == api.OK && f.kind == mail {
					wantTake(t, l, f.bytes(t), now, parcel.Plain(f.parcel))
				} else {
					wantNone(t, l, f.bytes(t), now, want)
				}
			}
			e.hold(t, l)
		}
	}
	for _, e := range []api.Errno{api.OK, api.ErrStale, api.ErrKnown} {
		if seen[e] < 1000 {
			t.Fatalf("error %d came up %d times", e, seen[e])
		}
	}
}

// flying is a frame in the air: to which end, of which life of the sender, and the parcel that was sent (no Kind: none).
type flying struct {
	to, life int
	b        []byte
	sent     api.Parcel
}

// line is two links, what each of them took by its parcels' numbers, what waits on each, and the air between them.
type line struct {
	ends  [2]*link.Link
	took  [2]map[int]int
	knew  [2]int
	waits [2][]api.Parcel
	air   []flying
	taken int
}

// begin begins a life of an end, which knows nothing of the one ahead.
func (x *line) begin(t *testing.T, i, life int) {
	x.ends[i], x.took[i], x.knew[i], x.waits[i] = mustNew(t, life, 4), map[int]int{}, 0, nil
}

// lift has the next frame of an end fly.
func (x *line) lift(i int) {
	b, ok := x.ends[i].Pull()
	if !ok {
		return
	}
	own, _ := x.ends[i].Lives()
	f := flying{1 - i, own, b, api.Parcel{}}
	if b[1] == mail {
		f.sent, x.waits[i] = x.waits[i][0], x.waits[i][1:]
	}
	x.air = append(x.air, f)
}

// land has a frame of the air come, and stay there.
func (x *line) land(t *testing.T, f flying, now int) {
	t.Helper()
	l := x.ends[f.to]
	p, ok, fault := l.Take(f.b, now)
	_, knows := l.Lives()
	if fault != api.OK && ok || knows < x.knew[f.to] || fault == api.OK && (f.life != knows || ok != (f.sent.Kind != api.NoMail)) {
		t.Fatalf("a frame of life %d: %v, error %d, known is %d", f.life, ok, fault, knows)
	}
	x.knew[f.to] = knows
	if !ok {
		return
	}
	if f.life < knows || !same(p, parcel.Plain(f.sent)) {
		t.Fatalf("sent %+v, taken %+v", f.sent, p)
	}
	// All parcels of a test are told apart by From or N.
	x.took[f.to][max(p.From, p.N)]++
	x.taken++
	if x.took[f.to][max(p.From, p.N)] > 1 {
		t.Fatalf("%+v is taken twice", p)
	}
}

// P14.4: frames are lost, doubled, overtaken, and of earlier lives.
func TestAir(t *testing.T) {
	taken := 0
	for run := range 200 {
		chance := dice(run + 1000)
		x := &line{}
		lives := [2]int{1, 1}
		x.begin(t, 0, 1)
		x.begin(t, 1, 1)
		for n := range 600 {
			i := chance.roll(2)
			switch chance.roll(12) {
			case 0, 1, 2:
				p := chance.parcel(n)
				if x.ends[i].Send(p) == api.OK {
					x.waits[i] = append(x.waits[i], p)
				}
			case 3:
				x.ends[i].Probe()
			case 4, 5, 6:
				x.lift(i)
			case 7:
				if chance.roll(20) == 0 {
					lives[i]++
					x.begin(t, i, lives[i])
				}
			case 8:
				if len(x.air) > 0 {
					at := chance.roll(len(x.air))
					x.air = slices.Delete(x.air, at, at+1)
				}
			default:
				if len(x.air) > 0 {
					x.land(t, x.air[chance.roll(len(x.air))], n)
				}
			}
		}
		taken += x.taken
	}
	if taken < 2000 {
		t.Fatalf("%d parcels were taken in all", taken)
	}
}

// P14.4: where no frame is lost, and none is overtaken by 64 others, each parcel comes once.
func TestAllCome(t *testing.T) {
	for run := range 50 {
		chance := dice(run + 2000)
		x := &line{}
		x.begin(t, 0, 3)
		x.begin(t, 1, 8)
		for n := range 200 {
			p := chance.parcel(n)
			mustSend(t, x.ends[0], p)
			x.waits[0] = append(x.waits[0], p)
			x.lift(0)
			for len(x.air) > 40 || n == 199 && len(x.air) > 0 {
				at := chance.roll(min(len(x.air), 1+chance.roll(20)))
				x.land(t, x.air[at], n)
				x.land(t, x.air[at], n)
				x.air = slices.Delete(x.air, at, at+1)
				// The first one does not wait for long.
				if len(x.air) > 0 {
					x.land(t, x.air[0], n)
					x.air = x.air[1:]
				}
			}
		}
		if x.taken != 200 {
			t.Fatalf("%d of 200 parcels came", x.taken)
		}
	}
}

// P14.5: up to four bytes, one behind the other, behind the length are changed.
func TestSpoilt(t *testing.T) {
	for run := range 300 {
		chance := dice(run + 3000)
		f := told{kind: byte(1 + chance.roll(3)), life: 1 + chance.roll(1<<30), number: 1 + chance.roll(1<<40)}
		if f.kind == mail {
			f.parcel = chance.parcel(run)
		}
		whole := f.bytes(t)
		l := mustNew(t, 5, 1)
		for at := 4; at < len(whole); at++ {
			for count := 1; count <= min(4, len(whole)-at); count++ {
				b := bytes.Clone(whole)
				for k := range count {
					b[at+k] ^= byte(chance.roll(256))
				}
				b[at] = whole[at] ^ byte(1+chance.roll(255))
				wantNone(t, l, b, 1, api.ErrSum)
			}
		}
		wantLives(t, l, 5, 0)
		if l.Alive(0) || l.Waits() != 0 {
			t.Fatal("a spoilt frame is heard")
		}
		if _, _, fault := l.Take(whole, 1); fault != api.OK {
			t.Fatalf("the frame as it was: error %d", fault)
		}
	}
}

// P1: no bytes and no tick make it panic; what is taken is what its bytes say.
func FuzzAnyFrame(f *testing.F) {
	f.Add(byte(1), []byte("\x03\x00\x01\x02\x01\x05\xac\x02"), 5, true)
	f.Add(byte(2), []byte("\x03\x07\x02"), -1, true)
	f.Add(byte(3), []byte("\x03\x05\x02"), 0, true)
	f.Add(byte(1), []byte("\xa7\x01\x00\x00"), 0, false)
	f.Fuzz(func(t *testing.T, kind byte, body []byte, now int, seals bool) {
		l := mustNew(t, 5, 1)
		b := body
		if seals && len(body) <= api.MaxBody {
			b = sealed(t, kind, body)
		}
		p, ok, fault := l.Take(b, now)
		if fault != api.OK {
			if ok || !same(p, api.Parcel{}) {
				t.Fatalf("error %d, and %+v, %v", fault, p, ok)
			}
			return
		}
		if ok != (b[1] == mail) || l.Waits() != btoi(b[1] == probe) {
			t.Fatalf("% x: %v, and %d wait", b, ok, l.Waits())
		}
		if put, _ := parcel.Put(p); ok && !bytes.HasSuffix(b[:len(b)-4], put) {
			t.Fatalf("% x is taken for %+v", b, p)
		}
		if p, ok, fault := l.Take(b, now); fault != api.ErrKnown || ok || !same(p, api.Parcel{}) {
			t.Fatalf("once more: error %d", fault)
		}
	})
}

func btoi(b bool) int {
	if b {
		return 1
	}
	return 0
}
