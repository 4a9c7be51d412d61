package broker_test

import (
	"math"
	"testing"

	"grapevine/api"
	"grapevine/link"
	"grapevine/seal"
)

// P16.8: the errors of the link, and frames that have no parcel.
func TestTakeErrors(t *testing.T) {
	r := newRig(t, inRow(2, sub(1, 0, "*")), 1)
	p, _ := link.New(3, 4)
	p.Send(told(0, 1, 2, quiet(1, 2)))
	f, _ := p.Pull()
	for _, bad := range []int{-1, top + 1, math.MaxInt, math.MinInt} {
		wantErr(t, "Take", r.b.Take(0, f, bad), api.ErrArg)
	}
	wantErr(t, "Take", r.b.Take(0, nil, 1), api.ErrShort)
	wantErr(t, "Take", r.b.Take(0, f[1:], 1), api.ErrForm)
	wantErr(t, "Take", r.b.Take(0, f[:9], 1), api.ErrShort)
	spoilt := append([]byte(nil), f...)
	spoilt[8] ^= 1
	wantErr(t, "Take", r.b.Take(0, spoilt, 1), api.ErrSum)
	odd, _ := seal.Seal(4, []byte{1, 0, 1})
	wantErr(t, "Take", r.b.Take(0, odd, 1), api.ErrType)
	r.tick(0)
	r.wantHeard(0)
	wantErr(t, "Take", r.b.Take(0, f, 1), api.OK)
	wantErr(t, "Take", r.b.Take(0, f, 1), api.ErrKnown)
	old, _ := link.New(2, 4)
	old.Send(told(0, 1, 2, quiet(1, 2)))
	f, _ = old.Pull()
	wantErr(t, "Take", r.b.Take(0, f, 1), api.ErrStale)
}

// P16.8: a probe is answered.
func TestTakeProbe(t *testing.T) {
	r := newRig(t, inRow(2), 1)
	r.peers[0].Probe()
	f, _ := r.peers[0].Pull()
	wantErr(t, "Take", r.b.Take(0, f, 1), api.OK)
	if l, answers := r.heard(0); len(l) != 0 || answers != 1 {
		t.Fatal("an answer", l, answers)
	}
	r.peers[0].Take(f, 1)
}

// P16.8: parcels of publishers, and of subscriptions, that the overlay has not.
func TestTakeOfOthers(t *testing.T) {
	r := newRig(t, inRow(3, sub(2, 0, "*"), sub(1, 0, "*")), 1)
	r.say(0, told(1, 1, 9, quiet(1, 9)))
	r.say(0, told(2, 1, 9, quiet(1, 9)))
	r.say(2, wants(1, 1, 9))
	for _, kind := range []api.Mail{api.Join, api.Ack, api.Leave} {
		r.say(2, says(kind, 1, 1, 1, 5))
		r.say(2, says(kind, 0, 3, 1, 5))
		r.say(2, says(kind, 0, 32, 1, 5))
	}
	r.say(0, says(api.Grant, 1, 1, 1, 5))
	r.say(0, says(api.Grant, 0, 3, 1, 5))
	r.say(0, says(api.Grant, 0, 32, 1, 5))
	r.wantHeard(0)
	r.wantHeard(2)
	two := inRow(3, sub(2, 0, "*"), sub(2, 1, "*"))
	two.Pubs = []int{0, 0}
	r = newRig(t, two, 1)
	// Subscription 2 is none of publisher 0.
	r.say(2, says(api.Join, 0, 2, 1, 0))
	r.say(0, says(api.Grant, 0, 2, 1, 5))
	r.wantHeard(0)
	r.wantHeard(2)
	r.say(2, says(api.Join, 1, 2, 1, 0))
	r.wantHeard(0, says(api.Join, 1, 2, 1, 0))
	r = newRig(t, two, 0)
	r.say(1, says(api.Join, 0, 2, 1, 0))
	r.wantHeard(1)
	if r.cell(32, 1) != -1 || r.cell(130, 1) != -1 {
		t.Fatal("a cell")
	}
}

// P16.8: what comes from the wrong side is nothing.
func TestTakeWrongSide(t *testing.T) {
	r := newRig(t, diamond(), 1)
	// From one that is as far, and from one Down.
	for _, from := range []int{2, 3, 4} {
		r.say(from, told(0, 1, 9, quiet(1, 9)))
		r.say(from, says(api.Grant, 0, 1, 1, 5))
	}
	// From one that is as far, and from one Up.
	for _, from := range []int{2, 0} {
		r.say(from, wants(0, 1, 9))
		for _, kind := range []api.Mail{api.Join, api.Ack, api.Leave} {
			r.say(from, says(kind, 0, 1, 1, 5))
		}
	}
	for other := range 5 {
		r.wantHeard(other)
	}
	wantErr(t, "Subscribe", r.b.Subscribe(2), api.OK)
	r.say(2, says(api.Grant, 0, 2, 1, 5))
	r.say(3, says(api.Grant, 0, 2, 1, 5))
	r.wantState(2, false, 0)
	r.say(0, says(api.Grant, 0, 2, 1, 5))
	r.wantState(2, true, 5)
}

// P16.8: what is told is learnt, and handed on, if it is news.
func TestTakeTell(t *testing.T) {
	r := newRig(t, diamond(), 1)
	wantErr(t, "Subscribe", r.b.Subscribe(2), api.OK)
	r.say(0, says(api.Grant, 0, 2, 1, 0))
	r.connect(2, 0)
	x, y := priced(1, "x"), priced(2, "y")
	news := told(0, 1, 9, quiet(1, 4), item(5, 3, x), item(6, 4, y))
	r.say(0, news)
	// 1 is behind 3, 3 behind 4; nobody is told but those Down.
	r.wantHeard(3, told(0, 1, 9, []api.Span{{From: 1, To: 4, Is: api.Silence}, {From: 6, To: 6, Is: api.Silence}}, item(5, 3, x)))
	r.wantHeard(4, told(0, 1, 9, quiet(1, 5), item(6, 4, y)))
	r.wantHeard(2)
	r.wantHeard(0)
	r.wantItem(2, 5, 3, x)
	r.wantNothing(2, 6)
	r.say(0, news)
	r.say(0, told(0, 3, 6, nil, item(6, 4, y)))
	r.say(0, told(0, 3, 6, nil))
	r.wantHeard(3)
	r.wantHeard(4)
	// The whole range is handed on, as it is known now.
	r.say(0, told(0, 4, 8, lost(7, 7)))
	r.wantHeard(4, told(0, 4, 8, []api.Span{{From: 4, To: 5, Is: api.Silence}, {From: 7, To: 7, Is: api.Lost}}, item(6, 4, y)))
	r.say(0, told(0, 6, 6, nil, item(6, 1, y)))
	r.wantHeard(4, told(0, 6, 6, nil, item(6, 5, y)))
	r.heard(3)
	r.wantStep(2, api.Step{Is: api.Lost, From: 7, To: 7})
}

// P16.8: what is wanted is told, and the rest is wanted of those Up.
func TestTakeWant(t *testing.T) {
	r := newRig(t, diamond(), 1)
	r.say(3, wants(0, 4, 9))
	r.wantHeard(3)
	r.wantHeard(0, wants(0, 4, 9))
	x := priced(1, "x")
	r.say(0, told(0, 1, 7, quiet(1, 4), item(6, 3, x)))
	r.heard(3)
	r.heard(4)
	r.say(3, wants(0, 4, 9))
	r.wantHeard(3, told(0, 4, 9, quiet(4, 4), item(6, 3, x)))
	r.wantHeard(4)
	r.wantHeard(0, wants(0, 5, 9))
	r.say(4, wants(0, 3, 6))
	r.wantHeard(4, told(0, 3, 6, []api.Span{{From: 3, To: 4, Is: api.Silence}, {From: 6, To: 6, Is: api.Silence}}))
	r.wantHeard(0, wants(0, 5, 5))
	r.say(3, wants(0, 6, 6))
	r.wantHeard(3, told(0, 6, 6, nil, item(6, 3, x)))
	r.wantHeard(0)
	r.say(3, wants(0, 8, top))
	r.wantHeard(3)
	r.wantHeard(0, wants(0, 8, top))
	// Two that are Up are asked both.
	far := diamond()
	far.Lines = append(far.Lines, [2]int{3, 4})
	far.Lines = append(far.Lines[:4], far.Lines[5:]...)
	r = newRig(t, far, 3)
	r.say(4, wants(0, 8, 9))
	r.wantHeard(1, wants(0, 8, 9))
	r.wantHeard(2, wants(0, 8, 9))
}

// P16.8: at the publisher's broker it is told from the log.
func TestTakeWantAtHome(t *testing.T) {
	r := newRig(t, inRow(2, sub(1, 0, "a>5")), 0)
	r.say(1, says(api.Join, 0, 1, 1, 0))
	r.say(1, wants(0, 1, 9))
	r.wantHeard(1, says(api.Grant, 0, 1, 1, 0))
	x, y := priced(9, "x"), priced(1, "y")
	r.publish(0, x, 3, 3)
	r.publish(0, y, 5, 5)
	r.tick(8)
	r.heard(1)
	r.say(1, wants(0, 1, 9))
	r.wantHeard(1, told(0, 1, 9, []api.Span{{From: 1, To: 2, Is: api.Silence}, {From: 4, To: 7, Is: api.Silence}}, item(3, 1, x)))
	r.say(1, wants(0, 3, 4))
	r.wantHeard(1, told(0, 3, 4, quiet(4, 4), item(3, 1, x)))
	r.say(1, wants(0, 8, 9))
	r.wantHeard(1)
	r.say(1, says(api.Ack, 0, 1, 1, 3))
	r.tick(8)
	r.heard(1)
	r.say(1, wants(0, 2, top))
	r.wantHeard(1, told(0, 2, top, []api.Span{{From: 2, To: 3, Is: api.Lost}, {From: 4, To: 7, Is: api.Silence}}))
}

// P16.8: what subscriptions say goes up, whoever they are.
func TestTakeSaid(t *testing.T) {
	r := newRig(t, diamond(), 1)
	l := []api.Parcel{says(api.Join, 0, 1, 7, 0), says(api.Ack, 0, 3, 7, 5), says(api.Leave, 0, 4, 7, 0), says(api.Join, 0, 2, 1, 0)}
	for _, p := range l {
		r.say(4, p)
	}
	r.wantHeard(0, l...)
	for _, other := range []int{2, 3, 4} {
		r.wantHeard(other)
	}
}

// P16.8
func TestTakeGrant(t *testing.T) {
	r := newRig(t, diamond(), 1)
	// Towards one that is behind 3, and one behind 4.
	r.say(0, says(api.Grant, 0, 1, 1, 5))
	r.wantHeard(3, says(api.Grant, 0, 1, 1, 5))
	r.wantHeard(4)
	r.say(0, says(api.Grant, 0, 3, 1, 6))
	r.wantHeard(4, says(api.Grant, 0, 3, 1, 6))
	r.wantHeard(3)
	// One that is nowhere Down.
	r.say(0, says(api.Grant, 0, 4, 1, 6))
	// One here: off, asked with another number, asked, on.
	r.say(0, says(api.Grant, 0, 2, 1, 6))
	r.wantState(2, false, 0)
	wantErr(t, "Subscribe", r.b.Subscribe(2), api.OK)
	r.say(0, says(api.Grant, 0, 2, 2, 6))
	r.wantState(2, false, 0)
	r.say(0, says(api.Grant, 0, 2, 1, 6))
	r.wantState(2, true, 6)
	if a, b := r.cell(0, 1), r.cell(0, 9); a != 4*1+2 || b != 6 {
		t.Fatal("cells", a, b)
	}
	r.say(0, says(api.Grant, 0, 2, 1, 9))
	r.wantState(2, true, 6)
	for _, other := range []int{0, 2, 3, 4} {
		r.wantHeard(other)
	}
}

// member is what the publisher's broker keeps of a subscription: its cells.
func (r *rig) wantMember(id, number int, on bool, acked int) {
	r.t.Helper()
	state := 2 * number
	if on {
		state++
	}
	if a, b := r.cell(32, id-1), r.cell(32, 7+id); a != state || b != acked {
		r.t.Fatalf("cells of %d: %d %d, wanted %d %d", id, a, b, state, acked)
	}
}

// P16.9
func TestJoin(t *testing.T) {
	r := newRig(t, inRow(2, sub(1, 0, "*")), 0)
	r.publish(0, priced(1, "x"), 5, 5)
	r.heard(1)
	r.say(1, says(api.Join, 0, 1, 3, 0))
	r.wantMember(1, 3, true, 5)
	r.wantHeard(1, says(api.Grant, 0, 1, 3, 5))
	// Anew, with the promise above the high tick: nothing changes, but a Grant goes.
	r.tick(9)
	r.heard(1)
	r.say(1, says(api.Join, 0, 1, 3, 0))
	r.wantMember(1, 3, true, 5)
	r.wantHeard(1, says(api.Grant, 0, 1, 3, 5))
	// One that is outdated.
	r.say(1, says(api.Join, 0, 1, 2, 0))
	r.wantMember(1, 3, true, 5)
	r.wantHeard(1)
	// A later one.
	r.say(1, says(api.Join, 0, 1, 4, 0))
	r.wantMember(1, 4, true, 8)
	r.wantHeard(1, says(api.Grant, 0, 1, 4, 8))
	// The one that has left.
	r.say(1, says(api.Leave, 0, 1, 4, 0))
	r.say(1, says(api.Join, 0, 1, 4, 0))
	r.wantMember(1, 4, false, 8)
	r.wantHeard(1)
	r.say(1, says(api.Join, 0, 1, api.MaxNumber, 0))
	r.wantMember(1, api.MaxNumber, true, 8)
	// It lasts.
	r.crash()
	r.publish(0, priced(1, "y"), 12, 12)
	r.wantHeard(1, told(0, 6, 12, quiet(6, 11), item(12, 1, priced(1, "y"))))
	r.wantMember(1, api.MaxNumber, true, 8)
}

// P16.9: towards a subscription on all shortest ways.
func TestJoinWays(t *testing.T) {
	r := newRig(t, diamond(), 0)
	r.say(2, says(api.Join, 0, 1, 1, 0))
	r.wantHeard(1, says(api.Grant, 0, 1, 1, 0))
	r.wantHeard(2, says(api.Grant, 0, 1, 1, 0))
	r.say(2, says(api.Join, 0, 3, 1, 0))
	r.wantHeard(1, says(api.Grant, 0, 3, 1, 0))
	r.wantHeard(2)
	// Whoever says it of one that is here: it is here that it is asked, or not.
	r.say(1, says(api.Join, 0, 4, 1, 0))
	r.wantMember(4, 1, true, 0)
	r.wantState(4, false, 0)
	wantErr(t, "Subscribe", r.b.Subscribe(4), api.OK)
	r.say(1, says(api.Join, 0, 4, 1, 0))
	r.wantState(4, true, 0)
	r.wantHeard(1)
}

// P16.9
func TestAckUp(t *testing.T) {
	r := newRig(t, inRow(2, sub(1, 0, "*")), 0)
	r.say(1, says(api.Ack, 0, 1, 1, 9))
	if r.cell(32, 0) != -1 || r.cell(32, 8) != -1 {
		t.Fatal("an ack of one that never was")
	}
	r.say(1, says(api.Join, 0, 1, 3, 0))
	r.say(1, says(api.Ack, 0, 1, 3, 9))
	r.wantMember(1, 3, true, 9)
	r.say(1, says(api.Ack, 0, 1, 3, 8))
	r.say(1, says(api.Ack, 0, 1, 2, 20))
	r.say(1, says(api.Ack, 0, 1, 4, 20))
	r.wantMember(1, 3, true, 9)
	r.say(1, says(api.Ack, 0, 1, 3, top))
	r.wantMember(1, 3, true, top)
	r.say(1, says(api.Leave, 0, 1, 3, 0))
	r.say(1, says(api.Join, 0, 1, 4, 0))
	r.wantMember(1, 4, true, 0)
	r.say(1, says(api.Leave, 0, 1, 4, 0))
	r.say(1, says(api.Ack, 0, 1, 4, 9))
	r.wantMember(1, 4, false, 0)
}

// P16.9
func TestLeave(t *testing.T) {
	r := newRig(t, inRow(2, sub(1, 0, "*")), 0)
	r.say(1, says(api.Join, 0, 1, 3, 0))
	r.say(1, says(api.Leave, 0, 1, 2, 0))
	r.wantMember(1, 3, true, 0)
	r.say(1, says(api.Leave, 0, 1, 5, 0))
	r.wantMember(1, 5, false, 0)
	r.say(1, says(api.Join, 0, 1, 4, 0))
	r.say(1, says(api.Join, 0, 1, 5, 0))
	r.wantMember(1, 5, false, 0)
	r.say(1, says(api.Leave, 0, 1, 4, 0))
	r.wantMember(1, 5, false, 0)
	r.say(1, says(api.Join, 0, 1, 6, 0))
	r.wantMember(1, 6, true, 0)
	r.say(1, says(api.Leave, 0, 1, 6, 0))
	r.wantMember(1, 6, false, 0)
	// Of one of which nothing was known.
	other := newRig(t, inRow(2, sub(1, 0, "*")), 0)
	other.say(1, says(api.Leave, 0, 1, 2, 0))
	if got := other.cell(32, 0); got != 2*2 {
		t.Fatal("a cell", got)
	}
}

// P16.8: a publisher's broker is told nothing, and granted nothing.
func TestTakeAtHome(t *testing.T) {
	r := newRig(t, inRow(2, sub(0, 0, "*")), 0)
	wantErr(t, "Subscribe", r.b.Subscribe(1), api.OK)
	r.say(1, says(api.Grant, 0, 1, 1, 5))
	r.wantState(1, false, 0)
	r.tick(1)
	r.connect(1, 0)
	r.say(1, told(0, 1, 9, quiet(1, 8), item(9, 1, priced(1, "x"))))
	r.wantNothing(1, 0)
}

// P3: a frame stays as it is, and is not kept.
func TestFrameMemory(t *testing.T) {
	r := newRig(t, inRow(3, sub(1, 0, "*"), sub(2, 0, "*")), 1)
	wantErr(t, "Subscribe", r.b.Subscribe(1), api.OK)
	r.say(0, says(api.Grant, 0, 1, 1, 0))
	r.connect(1, 0)
	r.peers[0].Send(told(0, 1, 5, quiet(1, 4), item(5, 3, priced(1, "x"))))
	f, _ := r.peers[0].Pull()
	ahead := string(f)
	f = append(f, 1, 2, 3)[:len(f)]
	wantErr(t, "Take", r.b.Take(0, f, 1), api.OK)
	if string(f) != ahead || string(f[:len(f)+3][len(f):]) != "\x01\x02\x03" {
		t.Fatal("a frame was changed")
	}
	clear(f)
	r.wantItem(1, 5, 3, priced(1, "x"))
	r.wantHeard(2, told(0, 1, 5, quiet(1, 4), item(5, 3, priced(1, "x"))))
}
