package broker_test

import (
	"bytes"
	"slices"
	"testing"

	"grapevine/api"
	"grapevine/broker"
	"grapevine/event"
	"grapevine/evlog"
	"grapevine/link"
	"grapevine/mark"
	"grapevine/pred"
	"grapevine/sector"
)

const top = api.MaxTick

// terms are those of a text.
func terms(text string) []api.Term {
	l, _, fault := pred.Parse(text)
	if fault != api.OK {
		panic("no predicate: " + text)
	}
	return l
}

// sub is a subscription at a broker, of a publisher.
func sub(at, pub int, text string) api.Sub {
	return api.Sub{Broker: at, Pub: pub, Terms: terms(text)}
}

// inRow is brokers in a row, with a publisher at the first one.
func inRow(n int, subs ...api.Sub) api.Topo {
	t := api.Topo{Brokers: n, Pubs: []int{0}, Subs: subs, Schema: []api.Field{{Name: "a", Kind: api.Whole}}}
	for i := 1; i < n; i++ {
		t.Lines = append(t.Lines, [2]int{i - 1, i})
	}
	return t
}

// priced is an event with a = n.
func priced(n int64, content string) api.Event {
	return api.Event{Attrs: []api.Attr{{Name: "a", Value: api.Value{Kind: api.Whole, Whole: n}}}, Content: []byte(content)}
}

func bodyOf(e api.Event) []byte {
	b, fault := event.Put(e)
	if fault != api.OK {
		panic("no event")
	}
	return b
}

// rig is a broker, its disk, and the other ends of its lines.
type rig struct {
	t     *testing.T
	topo  api.Topo
	me    int
	life  int
	disk  *sector.Disk
	b     *broker.Broker
	peers map[int]*link.Link
}

func newRig(t *testing.T, topo api.Topo, me int) *rig {
	t.Helper()
	d, fault := sector.New(api.DiskSize)
	wantErr(t, "a disk", fault, api.OK)
	r := &rig{t: t, topo: topo, me: me, disk: d}
	r.begin()
	return r
}

// begin makes the broker of its disk, with a new life, and new ends of its lines.
func (r *rig) begin() {
	r.t.Helper()
	r.life++
	b, fault := broker.New(r.topo, r.me, r.disk, r.life)
	wantErr(r.t, "New", fault, api.OK)
	r.b, r.peers = b, map[int]*link.Link{}
	for i := range r.topo.Brokers {
		r.peers[i], _ = link.New(r.life, api.MaxQueue)
	}
}

func (r *rig) crash(fates ...int) {
	r.t.Helper()
	wantErr(r.t, "Crash", r.disk.Crash(fates), api.OK)
	r.begin()
}

// say has a neighbour send a parcel.
func (r *rig) say(from int, p api.Parcel) {
	r.t.Helper()
	wantErr(r.t, "Take", r.trySay(from, p), api.OK)
}

func (r *rig) trySay(from int, p api.Parcel) api.Errno {
	r.t.Helper()
	wantErr(r.t, "Send", r.peers[from].Send(p), api.OK)
	for {
		f, is := r.peers[from].Pull()
		if !is {
			r.t.Fatal("nothing to carry")
		}
		if fault := r.b.Take(from, f, 1); r.peers[from].Waits() == 0 {
			return fault
		}
	}
}

// heard are the parcels that wait for a neighbour, and how many probes and answers do.
func (r *rig) heard(to int) ([]api.Parcel, int) {
	r.t.Helper()
	var l []api.Parcel
	others := 0
	for f, is := r.b.Pull(to); is; f, is = r.b.Pull(to) {
		p, has, fault := r.peers[to].Take(f, 1)
		wantErr(r.t, "Take of a peer", fault, api.OK)
		if has {
			l = append(l, p)
		} else {
			others++
		}
	}
	return l, others
}

func sameItem(a, b api.Item) bool {
	return a.Tick == b.Tick && a.For == b.For && bytes.Equal(a.Body, b.Body)
}

func sameParcel(a, b api.Parcel) bool {
	return a.Kind == b.Kind && a.Pub == b.Pub && a.Sub == b.Sub && a.N == b.N && a.From == b.From && a.To == b.To && slices.Equal(a.Spans, b.Spans) && slices.EqualFunc(a.Items, b.Items, sameItem)
}

// wantHeard holds the parcels that wait for a neighbour against those that are to.
func (r *rig) wantHeard(to int, want ...api.Parcel) {
	r.t.Helper()
	if got, _ := r.heard(to); !slices.EqualFunc(got, want, sameParcel) {
		r.t.Fatalf("to %d: %v, wanted %v", to, got, want)
	}
}

func (r *rig) tick(now int) {
	r.t.Helper()
	wantErr(r.t, "Tick", r.b.Tick(now), api.OK)
}

func (r *rig) publish(pub int, e api.Event, now, want int) {
	r.t.Helper()
	if tick, fault := r.b.Publish(pub, e, now); fault != api.OK || tick != want {
		r.t.Fatalf("Publish at %d: %d, error %d, wanted %d", now, tick, fault, want)
	}
}

func (r *rig) wantLog(pub, high, rel, used int) {
	r.t.Helper()
	if h, l, u := r.b.Log(pub); h != high || l != rel || u != used {
		r.t.Fatalf("log of %d: %d %d %d, wanted %d %d %d", pub, h, l, u, high, rel, used)
	}
}

func (r *rig) wantState(id int, on bool, acked int) {
	r.t.Helper()
	if is, at := r.b.State(id); is != on || at != acked {
		r.t.Fatalf("state of %d: %v %d, wanted %v %d", id, is, at, on, acked)
	}
}

func (r *rig) connect(id, want int) {
	r.t.Helper()
	if at, fault := r.b.Connect(id); fault != api.OK || at != want {
		r.t.Fatalf("Connect of %d: %d, error %d, wanted %d", id, at, fault, want)
	}
}

func (r *rig) wantStep(id int, want api.Step) {
	r.t.Helper()
	got, fault := r.b.Deliver(id)
	wantErr(r.t, "Deliver", fault, api.OK)
	if got.Is != want.Is || got.From != want.From || got.To != want.To || !sameItem(got.Item, want.Item) {
		r.t.Fatalf("Deliver for %d: %v, wanted %v", id, got, want)
	}
}

func (r *rig) wantItem(id, tick int, links uint32, e api.Event) {
	r.t.Helper()
	r.wantStep(id, api.Step{Is: api.Data, From: tick, To: tick, Item: api.Item{Tick: tick, For: links, Body: bodyOf(e)}})
}

func (r *rig) wantNothing(id, to int) {
	r.t.Helper()
	r.wantStep(id, api.Step{To: to})
}

// cell is what a cell on the disk has; -1, if it has nothing.
func (r *rig) cell(base, i int) int {
	r.t.Helper()
	c, fault := mark.Open(r.disk, base, 16)
	wantErr(r.t, "cells", fault, api.OK)
	if v, is := c.Get(i); is {
		return v
	}
	return -1
}

// setCell puts a cell, as somebody else might have.
func (r *rig) setCell(base, i, v int) {
	r.t.Helper()
	c, fault := mark.Open(r.disk, base, 16)
	wantErr(r.t, "cells", fault, api.OK)
	wantErr(r.t, "a cell", c.Put(i, v), api.OK)
}

// records are those of a publisher's log on the disk, as it lasts.
func (r *rig) records(pub int) []api.Rec {
	r.t.Helper()
	d := r.disk.Fork()
	wantErr(r.t, "Crash", d.Crash(nil), api.OK)
	l, fault := evlog.Open(d, 64+98*pub, api.LogSegs)
	wantErr(r.t, "a log", fault, api.OK)
	return l.Events(1, top)
}

func wantErr(t *testing.T, call string, got, want api.Errno) {
	t.Helper()
	if got != want {
		t.Fatalf("%s: error %d, wanted %d", call, got, want)
	}
}

// Parcels, in short.

func told(pub, from, to int, spans []api.Span, items ...api.Item) api.Parcel {
	return api.Parcel{Kind: api.Tell, Pub: pub, From: from, To: to, Spans: spans, Items: items}
}

func wants(pub, from, to int) api.Parcel {
	return api.Parcel{Kind: api.Want, Pub: pub, From: from, To: to}
}

func says(kind api.Mail, pub, id, n, from int) api.Parcel {
	return api.Parcel{Kind: kind, Pub: pub, Sub: id, N: n, From: from}
}

func quiet(from, to int) []api.Span { return []api.Span{{From: from, To: to, Is: api.Silence}} }
func lost(from, to int) []api.Span  { return []api.Span{{From: from, To: to, Is: api.Lost}} }

func item(tick int, links uint32, e api.Event) api.Item {
	return api.Item{Tick: tick, For: links, Body: bodyOf(e)}
}
