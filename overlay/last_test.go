package overlay

import (
	"testing"

	"grapevine/api"
	"grapevine/wheel"
)

// late is an overlay of one broker at a tick that no script comes to, with its timer due then.
func late(t *testing.T, now int) *Overlay {
	t.Helper()
	o, fault := New(api.Topo{Brokers: 1, Pubs: []int{0}})
	if fault != api.OK {
		t.Fatal("New", fault)
	}
	o.now = now
	o.beats, _ = wheel.New(now)
	o.beats.Set(1, now)
	return o
}

func wantDo(t *testing.T, o *Overlay, deed api.Deed, n int, want api.Errno) {
	t.Helper()
	if fault := o.Do(api.Act{Do: deed, N: n}); fault != want {
		t.Errorf("deed %d of %d at %d: error %d, wanted %d", deed, n, o.now, fault, want)
	}
}

// P17.2: no tick passes beyond MaxTick, and no timer is set there.
func TestLastTicks(t *testing.T) {
	o := late(t, api.MaxTick-8)
	wantDo(t, o, api.Wait, 9, api.ErrArg)
	wantDo(t, o, api.Calm, 9, api.ErrArg)
	wantDo(t, o, api.Wait, 0, api.OK)
	if at, is := o.beats.At(1); !is || at != api.MaxTick-3 {
		t.Errorf("the next beat is at %d", at)
	}
	wantDo(t, o, api.Wait, 6, api.OK)
	if l := o.beats.Ids(); len(l) != 0 {
		t.Errorf("a timer is due beyond MaxTick: %v", l)
	}
	wantDo(t, o, api.Calm, 3, api.ErrArg)
	wantDo(t, o, api.Calm, 1, api.OK)
	wantDo(t, o, api.Wait, 2, api.ErrArg)
	wantDo(t, o, api.Wait, 1, api.OK)
	if o.Now() != api.MaxTick {
		t.Errorf("the tick is %d", o.Now())
	}
	wantDo(t, o, api.Wait, 0, api.OK)
	wantDo(t, o, api.Wait, 1, api.ErrArg)
	wantDo(t, o, api.Calm, 1, api.ErrArg)
	wantDo(t, o, api.TickOne, 0, api.OK)
	wantDo(t, o, api.Publish, 0, api.OK)
	wantDo(t, o, api.Publish, 0, api.ErrTick)
}

// P17.2: a timer is set for MaxTick itself.
func TestLastBeat(t *testing.T) {
	o := late(t, api.MaxTick-api.Beat)
	wantDo(t, o, api.Wait, 0, api.OK)
	if at, is := o.beats.At(1); !is || at != api.MaxTick {
		t.Errorf("the next beat is at %d", at)
	}
	wantDo(t, o, api.Wait, api.Beat, api.OK)
	if l := o.beats.Ids(); len(l) != 0 {
		t.Errorf("a timer is due beyond MaxTick: %v", l)
	}
}

// P1, P17.2: where no life is left, the broker's error is told, and what is asked of it then has one, too.
func TestLastLife(t *testing.T) {
	o := late(t, 7)
	o.nodes[0].life = api.MaxNumber - 1
	wantDo(t, o, api.Crash, 0, api.OK)
	wantDo(t, o, api.Crash, 0, api.ErrArg)
	for _, deed := range []api.Deed{api.Publish, api.Force, api.TickOne} {
		wantDo(t, o, deed, 0, api.ErrNil)
	}
	wantDo(t, o, api.Wait, 9, api.OK)
	wantDo(t, o, api.Calm, 2, api.OK)
	if l := o.Trace(); len(l) != 0 {
		t.Errorf("marks %v", l)
	}
}
