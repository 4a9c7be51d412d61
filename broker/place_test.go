package broker_test

import (
	"math"
	"slices"
	"testing"

	"grapevine/api"
	"grapevine/broker"
)

// diamond is a publisher's broker 0, then 1 and 2, then 3, and 4 alone behind 1.
func diamond() api.Topo {
	return api.Topo{
		Brokers: 5, Lines: [][2]int{{0, 1}, {0, 2}, {1, 2}, {1, 3}, {1, 4}, {2, 3}}, Pubs: []int{0, 3},
		Subs:   []api.Sub{sub(3, 0, "*"), sub(1, 0, "a<5"), sub(4, 0, "*"), sub(0, 0, "*"), sub(0, 1, "*"), sub(2, 1, "*")},
		Schema: []api.Field{{Name: "a", Kind: api.Whole}},
	}
}

// P16.1: each fault alone, and of two the one that is named first.
func TestCheck(t *testing.T) {
	many := make([]api.Sub, api.MaxHosted+1)
	for i := range many {
		many[i] = sub(0, 0, "*")
	}
	crowd := []api.Term{{Op: api.Atom, Name: "a", Cmp: api.Equal, Value: api.Value{Kind: api.Whole}}}
	for i := 1; i < 20; i++ {
		crowd = append(crowd, api.Term{Op: api.Atom, Name: "a", Cmp: api.Equal, Value: api.Value{Kind: api.Whole, Whole: int64(2 * i)}}, api.Term{Op: api.Or})
	}
	names := []api.Field{{Name: "B", Kind: api.Whole}}
	for i, at := range []struct {
		change func(o *api.Topo)
		want   api.Errno
	}{
		{func(o *api.Topo) {}, api.OK},
		{func(o *api.Topo) { o.Brokers = 0 }, api.ErrLimit},
		{func(o *api.Topo) { o.Brokers = -1 }, api.ErrLimit},
		{func(o *api.Topo) { o.Brokers = api.MaxBrokers + 1 }, api.ErrLimit},
		{func(o *api.Topo) { o.Brokers = math.MaxInt }, api.ErrLimit},
		{func(o *api.Topo) { o.Pubs = nil }, api.ErrLimit},
		{func(o *api.Topo) { o.Pubs = []int{0, 1, 2, 3} }, api.ErrLimit},
		{func(o *api.Topo) { o.Pubs = []int{0, 3, 3} }, api.OK},
		{func(o *api.Topo) { o.Subs = many }, api.ErrLimit},
		{func(o *api.Topo) { o.Subs = many[1:] }, api.OK},
		{func(o *api.Topo) { o.Subs = nil }, api.OK},
		{func(o *api.Topo) { o.Brokers, o.Schema = 9, names }, api.ErrLimit},
		{func(o *api.Topo) { o.Schema = names }, api.ErrName},
		{func(o *api.Topo) { o.Schema = append(o.Schema, o.Schema...) }, api.ErrForm},
		{func(o *api.Topo) { o.Schema = []api.Field{{Name: "a"}} }, api.ErrType},
		{func(o *api.Topo) { o.Schema = make([]api.Field, api.MaxAttrs+1) }, api.ErrLimit},
		{func(o *api.Topo) { o.Schema, o.Lines = names, [][2]int{{1, 0}} }, api.ErrName},
		{func(o *api.Topo) { o.Lines[0], o.Lines[1] = o.Lines[1], o.Lines[0] }, api.ErrArg},
		{func(o *api.Topo) { o.Lines[1] = o.Lines[0] }, api.ErrArg},
		{func(o *api.Topo) { o.Lines[2] = [2]int{2, 1} }, api.ErrArg},
		{func(o *api.Topo) { o.Lines[2] = [2]int{1, 1} }, api.ErrArg},
		{func(o *api.Topo) { o.Lines[0] = [2]int{-1, 1} }, api.ErrArg},
		{func(o *api.Topo) { o.Lines[0] = [2]int{-1, -1} }, api.ErrArg},
		{func(o *api.Topo) { o.Lines[0] = [2]int{math.MinInt, 1} }, api.ErrArg},
		{func(o *api.Topo) { o.Lines[5] = [2]int{2, 5} }, api.ErrArg},
		{func(o *api.Topo) { o.Lines[5] = [2]int{2, math.MaxInt} }, api.ErrArg},
		{func(o *api.Topo) { o.Pubs[1] = 5 }, api.ErrArg},
		{func(o *api.Topo) { o.Pubs[0] = -1 }, api.ErrArg},
		{func(o *api.Topo) { o.Subs[0].Broker = 5 }, api.ErrArg},
		{func(o *api.Topo) { o.Subs[0].Broker = -1 }, api.ErrArg},
		{func(o *api.Topo) { o.Subs[0].Pub = 2 }, api.ErrArg},
		{func(o *api.Topo) { o.Subs[0].Pub = -1 }, api.ErrArg},
		{func(o *api.Topo) { o.Subs[0].Pub = math.MaxInt }, api.ErrArg},
		{func(o *api.Topo) { o.Subs[0].Terms, o.Subs[5].Pub = nil, 7 }, api.ErrArg},
		{func(o *api.Topo) { o.Subs[0].Terms = nil }, api.ErrForm},
		{func(o *api.Topo) { o.Subs[5].Terms = terms("b<5") }, api.ErrGone},
		{func(o *api.Topo) { o.Subs[5].Terms = terms("a") }, api.ErrType},
		{func(o *api.Topo) { o.Subs[5].Terms = make([]api.Term, api.MaxTerms+1) }, api.ErrLimit},
		{func(o *api.Topo) { o.Subs[0].Terms = crowd }, api.ErrLimit},
		{func(o *api.Topo) { o.Lines = o.Lines[:4] }, api.ErrGone},
		{func(o *api.Topo) { o.Lines = nil }, api.ErrGone},
		// Sub by Sub: the third one has no way, the fourth one no right terms, and the other way round.
		{func(o *api.Topo) { o.Lines, o.Subs[3].Terms = slices.Delete(o.Lines, 4, 5), nil }, api.ErrGone},
		{func(o *api.Topo) { o.Lines, o.Subs[1].Terms = slices.Delete(o.Lines, 4, 5), nil }, api.ErrForm},
		{func(o *api.Topo) { o.Lines, o.Subs[2].Terms = slices.Delete(o.Lines, 4, 5), nil }, api.ErrForm},
	} {
		o := diamond()
		at.change(&o)
		if got := broker.Check(o); got != at.want {
			t.Fatalf("%d: error %d, wanted %d", i, got, at.want)
		}
	}
	if got := broker.Check(api.Topo{}); got != api.ErrLimit {
		t.Fatal("nothing is an overlay", got)
	}
}

// P16.2
func TestPlaces(t *testing.T) {
	o := diamond()
	for _, at := range []struct {
		pub, at, far int
		up, down     []int
		reach        uint32
	}{
		{0, 0, 0, nil, []int{1, 2}, 0xf},
		{0, 1, 1, []int{0}, []int{3, 4}, 7},
		{0, 2, 1, []int{0}, []int{3}, 1},
		{0, 3, 2, []int{1, 2}, nil, 1},
		{0, 4, 2, []int{1}, nil, 4},
		{1, 3, 0, nil, []int{1, 2}, 0x30},
		{1, 1, 1, []int{3}, []int{0, 4}, 0x10},
		{1, 2, 1, []int{3}, []int{0}, 0x30},
		{1, 0, 2, []int{1, 2}, nil, 0x10},
		{1, 4, 2, []int{1}, nil, 0},
		{2, 0, -1, nil, nil, 0},
		{-1, 0, -1, nil, nil, 0},
		{math.MaxInt, 0, -1, nil, nil, 0},
		{0, 5, -1, nil, nil, 0},
		{0, -1, -1, nil, nil, 0},
		{0, math.MinInt, -1, nil, nil, 0},
	} {
		wantPlace(t, o, at.pub, at.at, at.far, at.up, at.down, at.reach)
	}
	// Where no way goes.
	o.Lines, o.Subs = o.Lines[:2], nil
	wantPlace(t, o, 0, 3, -1, nil, nil, 0)
	wantPlace(t, o, 1, 3, 0, nil, nil, 0)
	wantPlace(t, o, 1, 0, -1, nil, nil, 0)
	wantPlace(t, o, 0, 1, 1, []int{0}, nil, 0)
	// An overlay that may not be.
	o.Lines = [][2]int{{0, 2}, {0, 1}}
	wantPlace(t, o, 0, 0, -1, nil, nil, 0)
	wantPlace(t, api.Topo{}, 0, 0, -1, nil, nil, 0)
}

func wantPlace(t *testing.T, o api.Topo, pub, at, far int, up, down []int, reach uint32) {
	t.Helper()
	if got := broker.Far(o, pub, at); got != far {
		t.Fatalf("far of %d from %d: %d, wanted %d", at, pub, got, far)
	}
	if got := broker.Up(o, pub, at); !slices.Equal(got, up) {
		t.Fatalf("up of %d from %d: %v, wanted %v", at, pub, got, up)
	}
	if got := broker.Down(o, pub, at); !slices.Equal(got, down) {
		t.Fatalf("down of %d from %d: %v, wanted %v", at, pub, got, down)
	}
	if got := broker.Reach(o, pub, at); got != reach {
		t.Fatalf("reach of %d from %d: %b, wanted %b", at, pub, got, reach)
	}
}

// P16.2, by lines that are laid one behind the other: a way down is one on which each step is one farther.
func TestPlacesOfAny(t *testing.T) {
	for seed := range 300 {
		d := dice(seed)
		o := d.topo()
		n := o.Brokers
		lines := make([][]int, n)
		for i := range lines {
			lines[i] = make([]int, n)
			for j := range lines[i] {
				lines[i][j] = 99
			}
			lines[i][i] = 0
		}
		for _, l := range o.Lines {
			lines[l[0]][l[1]], lines[l[1]][l[0]] = 1, 1
		}
		for k := range n {
			for i := range n {
				for j := range n {
					lines[i][j] = min(lines[i][j], lines[i][k]+lines[k][j])
				}
			}
		}
		for pub, home := range o.Pubs {
			for at := range n {
				var up, down []int
				var reach uint32
				for other := range n {
					if lines[at][other] == 1 && lines[home][other] == lines[home][at]-1 {
						up = append(up, other)
					}
					if lines[at][other] == 1 && lines[home][other] == lines[home][at]+1 {
						down = append(down, other)
					}
				}
				for i, s := range o.Subs {
					if s.Pub == pub && lines[home][at]+lines[at][s.Broker] == lines[home][s.Broker] {
						reach |= 1 << i
					}
				}
				wantPlace(t, o, pub, at, lines[home][at], up, down, reach)
			}
		}
	}
}

// P3
func TestPlacesMemory(t *testing.T) {
	o := diamond()
	broker.Up(o, 0, 3)[0] = 9
	broker.Down(o, 0, 0)[0] = 9
	wantPlace(t, o, 0, 3, 2, []int{1, 2}, nil, 1)
	wantPlace(t, o, 0, 0, 0, nil, []int{1, 2}, 0xf)
}
