package overlay_test

import (
	"bytes"

	"grapevine/api"
)

// dice are numbers that look like chance, the same ones each time.
type dice uint64

// roll is a number from 0 to n - 1.
func (d *dice) roll(n int) int {
	*d = *d*6364136223846793005 + 1442695040888963407
	return int(uint64(*d)>>33) % n
}

// topo is an overlay in which ways lead everywhere.
func (d *dice) topo() api.Topo {
	t := api.Topo{Brokers: 1 + d.roll(api.MaxBrokers), Schema: []api.Field{{Name: "a", Kind: api.Whole}}}
	var at [api.MaxBrokers]int // where the way to each goes on
	for i := 1; i < t.Brokers; i++ {
		at[i] = d.roll(i)
	}
	for i := range t.Brokers {
		for j := i + 1; j < t.Brokers; j++ {
			if at[j] == i || d.roll(3) == 0 {
				t.Lines = append(t.Lines, [2]int{i, j})
			}
		}
	}
	for range 1 + d.roll(api.MaxPubs) {
		t.Pubs = append(t.Pubs, d.roll(t.Brokers))
	}
	texts := []string{"*", "*", "a<3", "a>5", "a=4", "!?a", "#"}
	for range d.roll(api.MaxHosted + 1) {
		t.Subs = append(t.Subs, sub(d.roll(t.Brokers), d.roll(len(t.Pubs)), texts[d.roll(len(texts))]))
	}
	return t
}

// event is one that is told from others by its number.
func (d *dice) event(n int) api.Event {
	e := api.Event{Content: []byte{byte(n), byte(n >> 8), byte(n >> 16)}}
	if d.roll(5) > 0 {
		e.Attrs = priced(int64(d.roll(9)), "").Attrs
	}
	if d.roll(6) == 0 {
		e.Content = append(e.Content, bytes.Repeat([]byte{7}, d.roll(150))...)
	}
	return e
}

// fates are those of a crash.
func (d *dice) fates() []int {
	l := make([]int, d.roll(8))
	for i := range l {
		l[i] = d.roll(200)
	}
	return l
}

// place is mostly a number from low to low + n - 1, and now and then one that is none.
func (d *dice) place(low, n int) int {
	if n == 0 || d.roll(60) == 0 {
		return []int{low - 1, low + n, -1 << 63, 1<<63 - 1}[d.roll(4)]
	}
	return low + d.roll(n)
}

// act is one that may come in an overlay with so many frames in the air; of each deed some that are refused.
func (d *dice) act(t api.Topo, count, air int) api.Act {
	a := api.Act{A: d.place(1, len(t.Subs))}
	switch x := d.roll(200); {
	case x < 30:
		a = publish(d.place(0, len(t.Pubs)), d.event(count))
	case x < 38:
		a.Do = api.Subscribe
	case x < 40:
		a.Do = api.Unsubscribe
	case x < 54:
		a.Do = api.Connect
	case x < 56:
		a.Do = api.Disconnect
	case x < 76:
		a.Do, a.N = api.Deliver, d.roll(20)-2
	case x < 94:
		a.Do, a.N = api.AckUp, d.roll(4)*d.roll(3)-1
	case x < 104:
		a = tickOne(d.place(0, t.Brokers))
	case x < 116:
		a = wait(d.roll(5))
	case x < 146:
		a = lift(d.place(0, t.Brokers), d.place(0, 2))
	case x < 176:
		a = land(air - 1 - d.roll(max(1, min(air, 40))))
	case x < 184:
		a = drop(d.place(0, air))
	case x < 187:
		a = spoil(d.place(0, air), d.roll(30)-1, d.roll(258))
	case x < 189:
		a = crash(d.place(0, t.Brokers), d.fates()...)
	case x < 192:
		a = trip(d.place(0, t.Brokers), d.roll(14)-1)
	case x < 194:
		a = force(d.place(0, len(t.Pubs)), d.roll(count+2)-1)
	case x < 197:
		a = wait(d.place(0, 40))
	case x < 198:
		a = api.Act{Do: api.Deed(d.roll(50) - 10), A: d.roll(4) - 1, B: d.roll(4) - 1, N: d.roll(4) - 1}
	case d.roll(3) == 0:
		a = calm(d.place(1, 3))
	default:
		a = wait(1)
	}
	return a
}
