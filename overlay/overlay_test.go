package overlay_test

import (
	"testing"

	"grapevine/api"
	"grapevine/overlay"
)

// P17.1: New has Check's error; else it is an overlay of which nothing is told by now.
func TestNew(t *testing.T) {
	for i, c := range []struct {
		topo api.Topo
		want api.Errno
	}{
		{api.Topo{}, api.ErrLimit},
		{api.Topo{Brokers: api.MaxBrokers + 1, Pubs: []int{0}}, api.ErrLimit},
		{api.Topo{Brokers: 1}, api.ErrLimit},
		{api.Topo{Brokers: 1, Pubs: []int{0}, Schema: []api.Field{{Name: "A", Kind: api.Whole}}}, api.ErrName},
		{api.Topo{Brokers: 1, Pubs: []int{1}}, api.ErrArg},
		{api.Topo{Brokers: 2, Pubs: []int{0}, Lines: [][2]int{{1, 0}}}, api.ErrArg},
		{api.Topo{Brokers: 1, Pubs: []int{0}, Subs: []api.Sub{{}}}, api.ErrForm},
		{api.Topo{Brokers: 2, Pubs: []int{0}, Subs: []api.Sub{sub(1, 0, "*")}}, api.ErrGone},
	} {
		if o, fault := overlay.New(c.topo); fault != c.want || o != nil {
			t.Errorf("%d: error %d, wanted %d", i, fault, c.want)
		}
	}
	r := newRig(t, inRow(3, sub(2, 0, "*")))
	r.wantNow(1)
	r.wantMarks()
	r.wantAir(0)
	r.wantState(1, false, 0)
	r.wantLog(0, 0, 0, 0)
	for me := range 3 {
		r.refuse(api.ErrGone, lift(me, 0))
	}
}

// P1: a nil overlay.
func TestNil(t *testing.T) {
	var o *overlay.Overlay
	for deed := api.NoDeed; deed <= api.Calm+1; deed++ {
		if fault := o.Do(api.Act{Do: deed}); fault != api.ErrNil {
			t.Errorf("deed %d: error %d", deed, fault)
		}
	}
	if o.Trace() != nil || o.Now() != 0 {
		t.Error("a nil overlay's trace, or tick")
	}
	if from, to, b := o.Air(0); from != -1 || to != -1 || b != nil {
		t.Error("a nil overlay's air", from, to, b)
	}
	if on, at := o.State(1); on || at != 0 {
		t.Error("a nil overlay's subscription", on, at)
	}
	if high, rel, used := o.Log(0); high != 0 || rel != 0 || used != 0 {
		t.Error("a nil overlay's log", high, rel, used)
	}
}

// far are numbers of which there is nothing anywhere.
var far = [...]int{-1 << 63, -1, api.MaxHosted + 1, api.MaxAir, 1<<63 - 1}

// P17.1: of what there is not nothing is told.
func TestNone(t *testing.T) {
	r := newRig(t, inRow(2, sub(1, 0, "*"), sub(1, 0, "*")))
	r.do(subscribe(1), subscribe(2), calm(2), publish(0, priced(1, "x")), lift(0, 0))
	for _, n := range append(far[:], 0, 3) {
		r.wantState(n, false, 0)
	}
	for _, n := range append(far[:], 1) {
		r.wantLog(n, 0, 0, 0)
		if from, to, b := r.o.Air(n); from != -1 || to != -1 || len(b) != 0 {
			t.Errorf("frame %d: %d %d %v", n, from, to, b)
		}
	}
	r.wantState(1, true, 1)
	r.wantState(2, true, 1)
	r.wantLog(0, 3, 0, 1)
	if from, to, b := r.o.Air(0); from != 0 || to != 1 || len(b) == 0 {
		t.Errorf("frame 0: %d %d %v", from, to, b)
	}
}

// P3: what is handed in is not kept, nor changed.
func TestKeepsNothing(t *testing.T) {
	topo := inRow(2, sub(1, 0, "a>5"))
	r := newRig(t, topo)
	topo.Lines[0] = [2]int{0, 0}
	topo.Pubs[0] = 7
	topo.Subs[0].Terms[0] = api.Term{Op: api.No}
	topo.Subs[0].Broker = 7
	topo.Schema[0].Name = "b"
	r.do(crash(0), crash(1), subscribe(1), calm(2), connect(1))
	r.skipMarks()
	e, room := priced(6, "abcdef"), []byte("abcdef")
	e.Content = room[:3]
	fates := []int{1, 2, 3, 4}
	r.do(publish(0, e), crash(0, fates[:2]...))
	if string(room) != "abcdef" || fates[2] != 3 {
		t.Error("what was handed in is changed")
	}
	room[0] = 'x'
	e.Attrs[0].Value.Whole = 7
	r.wantMarks(told(0, 3, priced(6, "abc")))
	r.do(calm(2), deliver(1, 1))
	r.wantMarks(got(1, 3, priced(6, "abc")))
}

// P3: what is answered is new memory.
func TestAnswersNew(t *testing.T) {
	r := newRig(t, inRow(2, sub(1, 0, "*")))
	r.do(subscribe(1), calm(2), connect(1), publish(0, priced(1, "abc")), calm(1), deliver(1, 1), publish(0, priced(2, "d")), lift(0, 0))
	for range 2 {
		l := r.o.Trace()
		if len(l) != 5 || l[2].Is != api.Told || l[3].Is != api.Got {
			t.Fatalf("a trace: %v", l)
		}
		for _, m := range l[2:4] {
			if m.Event.Attrs[0].Value.Whole != 1 || string(m.Event.Content) != "abc" {
				t.Fatalf("a trace: %v", l)
			}
			m.Event.Attrs[0].Value.Whole = 5
			m.Event.Content[0] = 'x'
		}
		l[0] = api.Mark{}
		_ = append(l[:1], api.Mark{}, api.Mark{})
	}
	_, _, a := r.o.Air(0)
	a[0] ^= 1
	_, _, b := r.o.Air(0)
	if a[0] == b[0] {
		t.Error("a frame's bytes are those that were answered ahead")
	}
	r.do(land(0))
}
