package judge_test

import (
	"bytes"
	"reflect"
	"testing"

	"grapevine/api"
	"grapevine/judge"
)

// P18.1, P18.2: Check's error, and 0, whatever the trace is.
func TestTopo(t *testing.T) {
	for i, c := range []struct {
		topo api.Topo
		want api.Errno
	}{
		{api.Topo{}, api.ErrLimit},
		{api.Topo{Brokers: 1, Pubs: []int{1}}, api.ErrArg},
		{api.Topo{Brokers: 1, Pubs: []int{0}, Subs: []api.Sub{{}}}, api.ErrForm},
		{api.Topo{Brokers: 2, Pubs: []int{0}, Subs: []api.Sub{{Broker: 1, Terms: terms("*")}}}, api.ErrGone},
	} {
		for _, l := range [][]api.Mark{nil, {told(0, 5, api.Event{})}, {told(0, 5, api.Event{}), {}}} {
			if n, fault := judge.Judge(c.topo, l); n != 0 || fault != c.want {
				t.Errorf("%d: %d and error %d, wanted %d", i, n, fault, c.want)
			}
			if l, is := judge.Owed(c.topo, l, 1); is || len(l) != 0 {
				t.Errorf("%d: owed %v", i, l)
			}
		}
	}
	wantAll(t, alone(1))
	wantAll(t, api.Topo{Brokers: 1, Pubs: []int{0}}, told(0, 1, api.Event{}))
}

// P18.1: ErrType, unless Is is from Told to Released; ErrArg, unless A is one of those that it speaks of.
func TestWhose(t *testing.T) {
	topo := alone(2, "*", "*", "*")
	for _, is := range []api.Note{-1 << 63, -1, api.NoNote, api.Released + 1, 1<<63 - 1} {
		wantEach(t, topo, api.ErrType, nil, api.Mark{Is: is}, api.Mark{Is: is, A: 1}, api.Mark{Is: is, A: -1})
	}
	for _, a := range []int{-1 << 63, -1, 4, 1<<63 - 1} {
		for is := api.Told; is <= api.Released; is++ {
			wantEach(t, topo, api.ErrArg, trace(asked(1), began(1, 0)), api.Mark{Is: is, A: a, From: 1, To: 1})
		}
	}
	for _, is := range []api.Note{api.Told, api.Tried, api.Released} {
		wantEach(t, topo, api.OK, nil, api.Mark{Is: is, From: 1}, api.Mark{Is: is, A: 1, From: 1})
		wantEach(t, topo, api.ErrArg, nil, api.Mark{Is: is, A: 2, From: 1})
	}
	wantEach(t, topo, api.OK, nil, asked(1), asked(3), ended(1), ended(3))
	wantEach(t, topo, api.ErrArg, nil, asked(0), ended(0), began(0, 0), closed(0), got(0, 1, low), quiet(0, 1), gap(0, 1, 1), acked(0, 0), ackTried(0, 0))
}

// P18.1, Told: ErrForm, unless the event fits; ErrTick, unless the tick is above all that were told, and all cursors of its subscriptions.
func TestTold(t *testing.T) {
	topo := alone(2, "*", "#")
	topo.Subs = append(topo.Subs, api.Sub{Pub: 1, Terms: terms("*")})
	other := api.Event{Attrs: []api.Attr{{Name: "b", Value: low.Attrs[0].Value}}}
	kind := api.Event{Attrs: []api.Attr{{Name: "a", Value: api.Value{Kind: api.Truth}}}}
	long := api.Event{Content: make([]byte, api.MaxContent+1)}
	wantEach(t, topo, api.ErrForm, nil, told(0, 5, other), told(0, 5, kind), told(0, 5, long), told(0, 0, other))
	wantEach(t, topo, api.ErrTick, nil, told(0, 0, low), told(0, -1, low), told(0, -1<<63, low), told(0, top+1, low), told(0, 1<<63-1, low))
	wantEach(t, topo, api.OK, nil, told(0, 1, low), told(1, top, api.Event{Content: make([]byte, api.MaxContent)}))
	ahead := trace(told(0, 5, low))
	wantEach(t, topo, api.ErrTick, ahead, told(0, 5, low), told(0, 5, high), told(0, 4, low), told(0, 1, low))
	wantEach(t, topo, api.OK, ahead, told(0, 6, low), told(1, 5, low), told(1, 1, low))
	ahead = then(ahead, asked(2), began(2, 8))
	wantEach(t, topo, api.ErrTick, ahead, told(0, 8, low), told(0, 6, low))
	wantEach(t, topo, api.OK, ahead, told(0, 9, low), told(1, 1, low))
	ahead = then(ahead, quiet(2, 11), asked(1), began(1, 5), quiet(1, 10), ended(2), asked(2), began(2, 9), released(0, 15))
	wantEach(t, topo, api.ErrTick, ahead, told(0, 10, low), told(0, 11, low))
	wantEach(t, topo, api.OK, ahead, told(0, 12, low))
	ahead = then(ahead, gap(1, 13, 15))
	wantEach(t, topo, api.ErrTick, ahead, told(0, 15, low))
	wantEach(t, topo, api.OK, ahead, told(0, 16, low))
	ahead = then(ahead, tried(0, high), got(1, 20, high), told(1, 3, low))
	wantEach(t, topo, api.ErrTick, ahead, told(0, 20, low), told(0, 16, low))
	wantEach(t, topo, api.OK, ahead, told(0, 21, low), told(1, 4, low))
	wantLast(t, topo, api.ErrTick, then(ahead, asked(3), began(3, top), told(1, top, low))...)
}

// P18.1, Tried: ErrForm likewise; From counts for nothing.
func TestTried(t *testing.T) {
	topo := alone(1, "*")
	wantEach(t, topo, api.ErrForm, nil, tried(0, api.Event{Attrs: []api.Attr{{Name: "b"}}}), tried(0, api.Event{Content: make([]byte, api.MaxContent+1)}))
	wantAll(t, topo, told(0, 5, low), tried(0, low), tried(0, low), api.Mark{Is: api.Tried, From: -7, To: 3, Event: high})
}

// P18.1, Released: ErrTick, unless it may be a tick, or 0; what is less counts for nothing.
func TestReleased(t *testing.T) {
	topo := alone(2, "*")
	wantEach(t, topo, api.ErrTick, nil, released(0, -1), released(0, top+1), released(0, -1<<63), released(0, 1<<63-1))
	wantEach(t, topo, api.OK, nil, released(0, 0), released(1, top))
	ahead := trace(asked(1), began(1, 0), released(0, 7), released(0, 3), released(1, 20))
	wantEach(t, topo, api.OK, ahead, gap(1, 1, 7))
	wantEach(t, topo, api.ErrLimit, ahead, gap(1, 1, 8))
}

// P18.1, Asked, Ended, Closed: what is open is not asked for, and only what is open is closed.
func TestAsked(t *testing.T) {
	topo := alone(1, "*", "*")
	wantEach(t, topo, api.ErrBusy, nil, closed(1), began(1, 0))
	ahead := trace(asked(1))
	wantEach(t, topo, api.OK, ahead, asked(1), ended(1), began(1, 0))
	wantEach(t, topo, api.ErrBusy, ahead, closed(1), began(2, 0))
	ahead = then(ahead, began(1, 0))
	wantEach(t, topo, api.ErrBusy, ahead, asked(1), closed(2))
	wantEach(t, topo, api.OK, ahead, asked(2), ended(1), closed(1), began(1, 0))
	wantEach(t, topo, api.ErrBusy, then(ahead, ended(1)), closed(1), began(1, 0), quiet(1, 1))
	wantEach(t, topo, api.OK, then(ahead, ended(1)), asked(1), ended(1))
	wantEach(t, topo, api.ErrBusy, then(ahead, closed(1)), closed(1), quiet(1, 1))
	wantEach(t, topo, api.OK, then(ahead, closed(1)), asked(1), ended(1), began(1, 0))
}

// P18.1, Began of one that is fresh: from the greatest tick that was told when it was asked for on.
func TestBeganFresh(t *testing.T) {
	topo := alone(2, "*")
	wantEach(t, topo, api.OK, trace(asked(1)), began(1, 0), began(1, top))
	wantEach(t, topo, api.ErrTick, trace(asked(1)), began(1, -1), began(1, top+1), began(1, -1<<63), began(1, 1<<63-1))
	ahead := trace(told(0, 5, low), told(1, 9, low), asked(1), told(0, 7, low))
	wantEach(t, topo, api.ErrTick, ahead, began(1, 4), began(1, 0))
	wantEach(t, topo, api.OK, ahead, began(1, 5), began(1, 6), began(1, 7), began(1, 8))
	wantEach(t, topo, api.ErrTick, then(ahead, asked(1)), began(1, 5), began(1, 6))
	// What was ahead of being asked for counts for nothing.
	ahead = then(ahead, began(1, 7), quiet(1, 30), acked(1, 20), ackTried(1, 25), ended(1), asked(1))
	wantEach(t, topo, api.OK, ahead, began(1, 7), began(1, 50))
	wantEach(t, topo, api.ErrTick, ahead, began(1, 6))
	ahead = then(ahead, began(1, 8), closed(1))
	wantEach(t, topo, api.OK, ahead, began(1, 8))
	wantEach(t, topo, api.ErrTick, ahead, began(1, 7), began(1, 9), began(1, 20), began(1, 30))
	// One that was tried, and handed out, was told.
	ahead = trace(asked(1), began(1, 0), tried(0, low), got(1, 6, low), closed(1), asked(1))
	wantEach(t, topo, api.ErrTick, ahead, began(1, 5))
	wantEach(t, topo, api.OK, ahead, began(1, 6))
}

// P18.1, Began of one that is not fresh: from its acked tick to its greatest cursor, passing nothing of its own.
func TestBeganAgain(t *testing.T) {
	topo := alone(1, "a>5")
	ahead := trace(asked(1), began(1, 3), told(0, 6, low), told(0, 8, high), quiet(1, 7), closed(1))
	wantEach(t, topo, api.OK, ahead, began(1, 3), began(1, 5), began(1, 6), began(1, 7))
	wantEach(t, topo, api.ErrTick, ahead, began(1, 2), began(1, 8), began(1, 9))
	// Where it began it has acked.
	again := then(ahead, began(1, 6), closed(1))
	wantEach(t, topo, api.OK, again, began(1, 6), began(1, 7))
	wantEach(t, topo, api.ErrTick, again, began(1, 5), began(1, 8))
	again = then(ahead, began(1, 7), got(1, 8, high), quiet(1, 12), closed(1))
	wantEach(t, topo, api.OK, again, began(1, 7))
	wantEach(t, topo, api.ErrGone, again, began(1, 8), began(1, 12))
	wantEach(t, topo, api.ErrTick, again, began(1, 6), began(1, 13))
	// It may begin again while it is open.
	again = then(ahead, began(1, 7), got(1, 8, high), acked(1, 8), quiet(1, 12), began(1, 9))
	wantEach(t, topo, api.OK, again, began(1, 9), began(1, 12), quiet(1, 10))
	wantEach(t, topo, api.ErrTick, again, began(1, 8), quiet(1, 9))
}

// P18.1: what it may have acked counts where it is greater, and at most From.
func TestBeganTried(t *testing.T) {
	topo := alone(1, "*")
	ahead := trace(asked(1), began(1, 3), told(0, 5, low), told(0, 8, low), got(1, 5, low), got(1, 8, low), quiet(1, 10))
	wantEach(t, topo, api.ErrGone, then(ahead, closed(1)), began(1, 5), began(1, 7), began(1, 10))
	wantEach(t, topo, api.OK, then(ahead, closed(1)), began(1, 3), began(1, 4))
	may := then(ahead, ackTried(1, 6), closed(1))
	wantEach(t, topo, api.OK, may, began(1, 3), began(1, 4), began(1, 6), began(1, 7))
	wantEach(t, topo, api.ErrGone, may, began(1, 5), began(1, 8), began(1, 10))
	// The greatest one counts, and none once something is acked, or it began.
	may = then(ahead, ackTried(1, 8), ackTried(1, 4), closed(1))
	wantEach(t, topo, api.OK, may, began(1, 8), began(1, 10), began(1, 4))
	wantEach(t, topo, api.ErrGone, may, began(1, 5), began(1, 7))
	may = then(ahead, ackTried(1, 8), acked(1, 4), closed(1))
	wantEach(t, topo, api.OK, may, began(1, 4))
	wantEach(t, topo, api.ErrGone, may, began(1, 5), began(1, 8))
	may = then(ahead, ackTried(1, 8), began(1, 3), closed(1))
	wantEach(t, topo, api.OK, may, began(1, 3))
	wantEach(t, topo, api.ErrGone, may, began(1, 8))
	may = then(ahead, acked(1, 5), ackTried(1, 5), closed(1))
	wantEach(t, topo, api.OK, may, began(1, 7))
	wantEach(t, topo, api.ErrGone, may, began(1, 8))
}

// P18.1, Got: what was told of that tick, or tried, its own, above its cursor, with nothing passed.
func TestGot(t *testing.T) {
	topo := alone(1, "*", "a>5")
	wantEach(t, topo, api.ErrBusy, trace(told(0, 5, high), asked(1)), got(1, 5, high), got(1, 0, low))
	ahead := trace(told(0, 2, high), asked(1), asked(2), began(1, 3), began(2, 3), told(0, 5, low), told(0, 7, high), told(0, 9, high))
	wantEach(t, topo, api.ErrTick, ahead, got(1, 3, high), got(1, 2, high), got(1, -1, high), got(1, top+1, high), got(1, -1<<63, high), got(1, 1<<63-1, high))
	wantEach(t, topo, api.OK, ahead, got(1, 5, low), got(2, 7, high))
	wantEach(t, topo, api.ErrForm, ahead, got(1, 5, high), got(1, 6, low), got(1, 7, low), got(2, 5, low), got(2, 9, low), got(1, 7, api.Event{}), got(1, top, low))
	wantEach(t, topo, api.ErrForm, ahead, got(1, 5, api.Event{Attrs: []api.Attr{{Name: "a"}}}), got(1, 5, api.Event{Content: make([]byte, 999)}))
	wantEach(t, topo, api.ErrGone, ahead, got(1, 7, high), got(1, 9, high), got(2, 9, high))
	ahead = then(ahead, got(1, 5, low), got(2, 7, high))
	wantEach(t, topo, api.ErrTick, ahead, got(1, 5, low), got(2, 7, high), got(2, 5, low))
	wantEach(t, topo, api.ErrGone, ahead, got(1, 9, high))
	wantAll(t, topo, then(ahead, got(2, 9, high), got(1, 7, high), got(1, 9, high))...)
}

// P18.1: of one that was tried: the first such one is told of that tick then, and tried no longer.
func TestGotTried(t *testing.T) {
	topo := alone(2, "*", "a>5", "*")
	topo.Subs[2].Pub = 1
	ahead := trace(asked(1), asked(2), asked(3), began(1, 0), began(2, 0), began(3, 0), tried(0, low), tried(0, high), tried(0, low))
	wantEach(t, topo, api.OK, ahead, got(1, 1, low), got(1, 9, low), got(1, top, high), got(2, 5, high))
	wantEach(t, topo, api.ErrForm, ahead, got(2, 5, low), got(1, 5, api.Event{}), got(3, 5, low), got(3, 5, high))
	once := then(ahead, got(1, 5, high))
	wantEach(t, topo, api.ErrForm, once, got(1, 6, high), got(2, 6, high), got(2, 4, high), got(2, 5, low))
	wantEach(t, topo, api.OK, once, got(2, 5, high), got(1, 6, low), quiet(2, 4), told(0, 6, high))
	wantEach(t, topo, api.ErrGone, once, quiet(2, 5), quiet(2, 6))
	twice := then(ahead, got(1, 5, low), got(1, 6, low))
	wantEach(t, topo, api.ErrForm, twice, got(1, 7, low))
	wantEach(t, topo, api.OK, twice, got(1, 7, high), quiet(2, 9))
	// It may be told of a tick ahead of others that were.
	wantAll(t, topo, then(ahead, told(0, 8, high), got(1, 5, high), got(2, 5, high), got(2, 8, high), got(1, 8, high))...)
	wantLast(t, topo, api.ErrGone, then(ahead, told(0, 8, high), got(1, 5, high), got(2, 8, high))...)
	wantLast(t, topo, api.ErrForm, then(ahead, told(0, 8, low), got(1, 8, high))...)
}

// P18.1: events are the same, if they have the same bytes.
func TestSameBytes(t *testing.T) {
	topo := alone(1, "*")
	odd := priced(1)
	odd.Attrs[0].Value.Words, odd.Attrs[0].Value.Truth = "x", true
	odd.Content = []byte{}
	wantAll(t, topo, asked(1), began(1, 0), told(0, 1, odd), tried(0, odd), got(1, 1, low), got(1, 2, low))
	wantAll(t, topo, asked(1), began(1, 0), told(0, 1, low), tried(0, low), got(1, 1, odd), got(1, 2, odd))
}

// P18.1, Quiet: nothing of its own is passed.
func TestQuiet(t *testing.T) {
	topo := alone(2, "*", "a>5")
	wantEach(t, topo, api.ErrBusy, trace(asked(1)), quiet(1, 0), quiet(1, 5))
	ahead := trace(asked(1), asked(2), began(1, 3), began(2, 3), told(0, 5, low), told(0, 7, high), told(1, 4, high))
	wantEach(t, topo, api.ErrTick, ahead, quiet(1, 3), quiet(1, 2), quiet(1, -1), quiet(1, top+1), quiet(1, -1<<63), quiet(1, 1<<63-1))
	wantEach(t, topo, api.OK, ahead, quiet(1, 4), quiet(2, 4), quiet(2, 6))
	wantEach(t, topo, api.ErrGone, ahead, quiet(1, 5), quiet(1, 6), quiet(1, top), quiet(2, 7), quiet(2, top))
	wantAll(t, topo, then(ahead, quiet(2, 6), got(2, 7, high), quiet(2, top))...)
	wantLast(t, topo, api.ErrTick, then(ahead, quiet(2, 6), quiet(2, 6))...)
}

// P18.1, Gap: up to what was released, with nothing passed ahead of it.
func TestGap(t *testing.T) {
	topo := alone(1, "*")
	wantEach(t, topo, api.ErrBusy, trace(asked(1), released(0, 9)), gap(1, 1, 2), gap(1, 0, 0))
	ahead := trace(asked(1), began(1, 3), told(0, 6, low), told(0, 8, low), told(0, 12, low), released(0, 10))
	wantEach(t, topo, api.ErrTick, ahead, gap(1, 3, 5), gap(1, 0, 5), gap(1, -1, 5), gap(1, 5, 4), gap(1, 5, 0), gap(1, 5, top+1), gap(1, top+1, top+1), gap(1, top+1, top+2), gap(1, 5, 1<<63-1), gap(1, -1<<63, 1<<63-1))
	wantEach(t, topo, api.ErrLimit, ahead, gap(1, 4, 11), gap(1, 7, 11), gap(1, 11, 11), gap(1, 4, top))
	wantEach(t, topo, api.ErrGone, ahead, gap(1, 7, 9), gap(1, 9, 10), gap(1, 7, 7))
	wantEach(t, topo, api.OK, ahead, gap(1, 4, 4), gap(1, 4, 10), gap(1, 6, 6), gap(1, 5, 9))
	wantEach(t, topo, api.ErrTick, then(ahead, gap(1, 4, 7)), gap(1, 7, 9), got(1, 6, low))
	wantAll(t, topo, then(ahead, gap(1, 4, 7), got(1, 8, low), gap(1, 9, 10), got(1, 12, low))...)
	wantLast(t, topo, api.ErrGone, then(ahead, gap(1, 4, 7), quiet(1, 8))...)
}

// P18.1, Acked, AckTried: from its acked tick to its cursor.
func TestAcked(t *testing.T) {
	topo := alone(1, "*")
	for _, ack := range []func(int, int) api.Mark{acked, ackTried} {
		wantEach(t, topo, api.ErrBusy, nil, ack(1, 0))
		wantEach(t, topo, api.ErrBusy, trace(asked(1), began(1, 3), closed(1)), ack(1, 3), ack(1, 0))
		ahead := trace(asked(1), began(1, 3), quiet(1, 6))
		wantEach(t, topo, api.OK, ahead, ack(1, 3), ack(1, 4), ack(1, 6))
		wantEach(t, topo, api.ErrTick, ahead, ack(1, 2), ack(1, 7), ack(1, -1), ack(1, -1<<63), ack(1, 1<<63-1))
		wantEach(t, topo, api.ErrTick, then(ahead, acked(1, 5)), ack(1, 4), ack(1, 3))
		wantEach(t, topo, api.OK, then(ahead, acked(1, 5)), ack(1, 5), ack(1, 6))
		wantEach(t, topo, api.OK, then(ahead, ackTried(1, 5)), ack(1, 3), ack(1, 4))
	}
}

// P18.1: the first mark that may not be is told, whatever stands behind it.
func TestFirst(t *testing.T) {
	topo := alone(1, "*")
	l := trace(asked(1), began(1, 0), quiet(1, 0), api.Mark{}, told(0, 0, low))
	for i := 3; i <= len(l); i++ {
		if n, fault := judge.Judge(topo, l[:i]); n != 2 || fault != api.ErrTick {
			t.Errorf("%d marks: %d and error %d", i, n, fault)
		}
	}
}

// The chapter's example.
func TestExample(t *testing.T) {
	l := trace(told(0, 5, low), asked(1), began(1, 5), told(0, 7, low), quiet(1, 9))
	wantLast(t, alone(1, "*"), api.ErrGone, l...)
	wantAll(t, alone(1, "a>5"), l...)
}

// P18.2: the ticks of its own events that were told above its cursor, rising.
func TestOwed(t *testing.T) {
	topo := alone(2, "*", "a>5", "*")
	topo.Subs[2].Pub = 1
	l := trace(told(0, 2, high), asked(1), asked(2), asked(3), began(1, 3), began(2, 3), told(0, 4, low), told(0, 8, high), told(1, 1, low), tried(0, low), told(0, 9, low), told(0, 11, high))
	wantOwed(t, topo, l, 1, 4, 8, 9, 11)
	wantOwed(t, topo, l, 2, 8, 11)
	for _, id := range []int{-1 << 63, -1, 0, 3, 4, 1<<63 - 1} {
		if x, is := judge.Owed(topo, l, id); is || len(x) != 0 {
			t.Errorf("owed to %d: %v", id, x)
		}
	}
	l = then(l, got(1, 4, low), got(1, 6, low), got(1, 8, high))
	wantOwed(t, topo, l, 1, 9, 11)
	wantOwed(t, topo, l, 2, 8, 11)
	l = then(l, got(1, 9, low), got(1, 11, high), quiet(2, 7))
	wantOwed(t, topo, l, 1)
	wantOwed(t, topo, l, 2, 8, 11)
	wantOwed(t, topo, then(l, began(1, 3)), 1, 4, 6, 8, 9, 11)
	for _, m := range []api.Mark{closed(1), ended(1), {}, quiet(2, 8)} {
		if x, is := judge.Owed(topo, then(l, m), 1); is || len(x) != 0 {
			t.Errorf("behind %v owed is %v", m, x)
		}
	}
	wantOwed(t, topo, then(l, closed(2)), 1)
	wantOwed(t, topo, then(l, closed(1), began(1, 3)), 1, 4, 6, 8, 9, 11)
}

// P3: what is handed in stays as it is, and what is answered is new.
func TestLeavesAll(t *testing.T) {
	make2 := func() (api.Topo, []api.Mark) {
		e := api.Event{Attrs: low.Attrs, Content: append(make([]byte, 0, 9), 1, 2)}
		return alone(1, "*", "a>5"), trace(asked(1), began(1, 0), told(0, 3, e), tried(0, e), got(1, 3, e), told(0, 5, high), told(0, 7, high))
	}
	topo, l := make2()
	first, _ := judge.Owed(topo, l, 1)
	second, _ := judge.Owed(topo, l, 1)
	first[0] = 99
	if n, fault := judge.Judge(topo, l); n != len(l) || fault != api.OK || second[0] != 5 {
		t.Fatal("a trace", n, fault, second)
	}
	sameTopo, sameTrace := make2()
	if !reflect.DeepEqual(topo, sameTopo) || !reflect.DeepEqual(l, sameTrace) {
		t.Error("what was handed in is changed")
	}
	if room := l[2].Event.Content[:9]; !bytes.Equal(room, []byte{1, 2, 0, 0, 0, 0, 0, 0, 0}) {
		t.Error("spare room is changed", room)
	}
}
