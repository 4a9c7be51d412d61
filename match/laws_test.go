package match_test

import (
	"slices"
	"testing"

	"grapevine/api"
	"grapevine/cover"
	"grapevine/match"
	"grapevine/pred"
)

// dice are numbers that look like chance, the same ones each time.
type dice uint64

// roll is a number from 0 to n - 1.
func (d *dice) roll(n int) int {
	*d = *d*6364136223846793005 + 1442695040888963407
	return int(uint64(*d)>>33) % n
}

func pick[T any](d *dice, l ...T) T { return l[d.roll(len(l))] }

// value is a value of a kind, often the same one.
func (d *dice) value(k api.Kind) api.Value {
	switch k {
	case api.Whole:
		return whole(int64(d.roll(4)))
	case api.Words:
		return words(pick(d, "", "a", "ab", "b", "\xff"))
	case api.Truth:
		return truth(d.roll(2) == 0)
	}
	return point(d.roll(3)-1, d.roll(3)-1)
}

func (d *dice) event() api.Event {
	var e api.Event
	for _, field := range schema() {
		if d.roll(4) > 0 {
			e.Attrs = append(e.Attrs, attr(field.Name, d.value(field.Kind)))
		}
	}
	return e
}

func (d *dice) atom() api.Term {
	field := schema()[d.roll(5)]
	cmp := pick(d, api.Has, api.Equal, api.Other)
	switch field.Kind {
	case api.Truth:
		cmp = pick(d, cmp, api.Is)
	case api.Point:
		cmp = pick(d, cmp, api.Near)
	case api.Words:
		cmp = pick(d, cmp, api.Begins, api.Less, api.Least)
	default:
		cmp = pick(d, cmp, api.Most, api.More, api.Less)
	}
	return api.Term{Op: api.Atom, Name: field.Name, Cmp: cmp, Value: d.value(field.Kind), Radius: d.roll(2)}
}

func (d *dice) terms(depth int) []api.Term {
	if depth == 0 || d.roll(4) == 0 {
		if d.roll(12) == 0 {
			return []api.Term{{Op: pick(d, api.Yes, api.No)}}
		}
		return []api.Term{d.atom()}
	}
	l := d.terms(depth - 1)
	if join := pick(d, api.Not, api.And, api.And, api.Or); join != api.Not {
		return append(append(l, d.terms(depth-1)...), api.Term{Op: join})
	}
	return append(l, api.Term{Op: api.Not})
}

// many are predicates by numbers, none of which has too many boxes.
func (d *dice) many(count int) map[int][]api.Term {
	all := map[int][]api.Term{}
	for len(all) < count {
		l := d.terms(2)
		if _, fault := cover.Boxes(schema(), l); fault == api.OK {
			all[1+d.roll(api.MaxSubs)] = l
		}
	}
	return all
}

// shuffled is the numbers of predicates in an order of chance.
func (d *dice) shuffled(all map[int][]api.Term) []int {
	var ids []int
	for id := 1; id <= api.MaxSubs; id++ {
		if all[id] != nil {
			ids = slices.Insert(ids, d.roll(len(ids)+1), id)
		}
	}
	return ids
}

func (d *dice) index(t *testing.T, all map[int][]api.Term) *match.Index {
	t.Helper()
	x := mustNew(t)
	for _, id := range d.shuffled(all) {
		mustAdd(t, x, id, all[id])
	}
	return x
}

// told is the numbers of the predicates that tell true, asked one by one.
func told(t *testing.T, all map[int][]api.Term, e api.Event) []int {
	t.Helper()
	var ids []int
	for id := 1; id <= api.MaxSubs; id++ {
		if all[id] == nil {
			continue
		}
		is, fault := pred.Eval(all[id], e)
		if fault != api.OK {
			t.Fatalf("Eval(%v, %v): error %d", all[id], e, fault)
		}
		if is {
			ids = append(ids, id)
		}
	}
	return ids
}

// wantAlike holds all that an index tells against predicates.
func wantAlike(t *testing.T, d *dice, x *match.Index, all map[int][]api.Term) {
	t.Helper()
	var ids []int
	var ps [][]api.Term
	for id := range api.MaxSubs + 2 {
		l, there := x.Terms(id)
		if there != (all[id] != nil) || len(l) != len(all[id]) {
			t.Fatalf("Terms(%d): %v, %v, wanted %v", id, l, there, all[id])
		}
		if there {
			ids = append(ids, id)
			ps = append(ps, all[id])
		}
	}
	if !slices.Equal(x.Ids(), ids) {
		t.Fatalf("Ids: %v, wanted %v", x.Ids(), ids)
	}
	if want, _ := cover.Union(schema(), ps...); !sameBoxes(x.Union(), want) {
		t.Fatalf("Union: %+v, wanted %+v", x.Union(), want)
	}
	for range 20 {
		e := d.event()
		wantMatch(t, x, e, told(t, all, e)...)
	}
}

// P7.2, P7.3: what Match tells for all, it tells for each alone, in whichever order they were added.
func TestOrderPlaysNoPart(t *testing.T) {
	d := dice(1)
	for range 60 {
		all := d.many(d.roll(api.MaxSubs + 1))
		wantAlike(t, &d, d.index(t, all), all)
		for id, l := range all {
			one := map[int][]api.Term{id: l}
			wantAlike(t, &d, d.index(t, one), one)
			break
		}
	}
}

// P7.3: those that are added and removed leave all as it was, also where they have boxes of others.
func TestAddedAndRemoved(t *testing.T) {
	d := dice(2)
	for range 60 {
		all := d.many(4 + d.roll(12))
		x := d.index(t, all)
		ids := d.shuffled(all)
		var passing []int
		for id := 1; id <= api.MaxSubs; id++ {
			if all[id] == nil {
				mustAdd(t, x, id, all[ids[id%len(ids)]])
				passing = append(passing, id)
			}
		}
		for _, id := range passing {
			mustRemove(t, x, id)
		}
		wantAlike(t, &d, x, all)
		for _, id := range d.shuffled(all)[1:] {
			mustRemove(t, x, id)
			delete(all, id)
			wantAlike(t, &d, x, all)
		}
	}
}

// P7.3: of several that have one box, and of one that has it twice.
func TestSharedBoxes(t *testing.T) {
	e := of(attr("a", whole(1)))
	x := indexOf(t, "a=1", "a=1", "a=1 | a=1", "a=1 | a=2")
	wantMatch(t, x, e, 1, 2, 3, 4)
	mustRemove(t, x, 3)
	wantMatch(t, x, e, 1, 2, 4)
	mustRemove(t, x, 1)
	wantMatch(t, x, e, 2, 4)
	mustRemove(t, x, 4)
	wantMatch(t, x, e, 2)
	wantMatch(t, x, of(attr("a", whole(2))))
	mustAdd(t, x, 3, terms(t, "a=1 | a=1"))
	mustRemove(t, x, 2)
	wantMatch(t, x, e, 3)
	mustRemove(t, x, 3)
	wantMatch(t, x, e)
}

// P7.4
func TestUnionLetsThrough(t *testing.T) {
	d := dice(3)
	through := 0
	for range 100 {
		x := d.index(t, d.many(1+d.roll(16)))
		for range 20 {
			e := d.event()
			is, fault := x.Any(e)
			if fault != api.OK || !is {
				continue
			}
			through++
			if !slices.ContainsFunc(x.Union(), func(b []api.Side) bool { lets, _ := cover.Lets(b, e); return lets }) {
				t.Fatalf("Union lets %v not through", e)
			}
		}
	}
	if through < 100 {
		t.Fatalf("for somebody were %d events alone", through)
	}
}

// P4: what becomes of one, changes nothing of the other one.
func TestFork(t *testing.T) {
	d := dice(4)
	for i := range 60 {
		all := d.many(2 + d.roll(10))
		x := d.index(t, all)
		y := x.Fork()
		if i%2 == 0 {
			x, y = y, x
		}
		wantAlike(t, &d, y, all)
		others := map[int][]api.Term{}
		for _, id := range x.Ids() {
			mustRemove(t, x, id)
		}
		wantAlike(t, &d, x, others)
		wantAlike(t, &d, y, all)
		for id, l := range d.many(5) {
			others[id] = l
			mustAdd(t, x, id, l)
		}
		wantAlike(t, &d, x, others)
		wantAlike(t, &d, y, all)
		for id := 1; id <= api.MaxSubs; id++ {
			if all[id] == nil {
				mustAdd(t, y, id, terms(t, "*"))
			}
		}
		wantAlike(t, &d, x, others)
	}
	empty := mustNew(t)
	fork := empty.Fork()
	mustAdd(t, fork, 1, terms(t, "*"))
	wantMatch(t, empty, of())
	wantMatch(t, fork, of(), 1)
}

// P3: what is handed in stays as it is, and is not kept.
func TestHandedIn(t *testing.T) {
	s := append(schema(), api.Field{Name: "spare"})
	x, _ := match.New(s[:5])
	l := append(terms(t, "a<5 & !(d~(0,0)/2) | c=\"x\""), api.Term{Name: "spare"})
	kept := slices.Clone(l)
	e := of(append(make([]api.Attr, 0, 4), attr("a", whole(3)), attr("b", truth(true)))...)
	mustAdd(t, x, 5, l[:len(l)-1])
	wantMatch(t, x, e, 5)
	if !slices.Equal(l, kept) || !slices.Equal(s[:5], schema()) || s[5].Name != "spare" || e.Attrs[0] != attr("a", whole(3)) || e.Attrs[1] != attr("b", truth(true)) || e.Attrs[:3][2] != (api.Attr{}) {
		t.Fatal("what was handed in was changed")
	}
	clear(s)
	clear(l)
	wantMatch(t, x, e, 5)
	if got, _ := x.Terms(5); !slices.Equal(got, kept[:len(kept)-1]) || len(x.Union()) != 2 {
		t.Fatalf("what was handed in is kept: %v", got)
	}
	mustRemove(t, x, 5)
	wantMatch(t, x, e)
}

// P3: what is answered is new.
func TestAnsweredIsNew(t *testing.T) {
	x := indexOf(t, "d~(0,0)/2 & d!=(1,1)", "*", "d~(0,0)/2 & d!=(1,1)")
	mustRemove(t, x, 2)
	fork := x.Fork()
	e := of(attr("d", point(0, 1)))
	for _, y := range []*match.Index{x, fork} {
		ids, l, boxes := y.Ids(), first(y.Terms(1)), y.Union()
		found, _ := y.Match(e)
		clear(ids)
		clear(l)
		clear(found)
		for _, b := range boxes {
			clear(b[0].Ins)
			clear(b[0].Outs)
			clear(b)
		}
		clear(boxes)
		for _, z := range []*match.Index{x, fork} {
			wantMatch(t, z, e, 1, 3)
			wantMatch(t, z, of(attr("d", point(1, 1))))
			if got := z.Ids(); !slices.Equal(got, []int{1, 3}) {
				t.Fatalf("Ids: %v", got)
			}
			if got := first(z.Terms(1)); !slices.Equal(got, terms(t, "d~(0,0)/2 & d!=(1,1)")) {
				t.Fatalf("Terms: %v", got)
			}
			if u := z.Union(); len(u) != 1 || len(u[0]) != 1 || len(u[0][0].Ins) != 1 || u[0][0].Ins[0].R != 2 || u[0][0].Outs[0].X != 1 {
				t.Fatalf("Union: %+v", u)
			}
		}
	}
}

func first[T any](l T, _ bool) T { return l }
