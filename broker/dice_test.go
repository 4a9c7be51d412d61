package broker_test

import (
	"bytes"

	"grapevine/api"
)

// dice are numbers that look like chance, the same ones each time.
type dice uint64

// roll is a number from 0 to n - 1.
func (d *dice) roll(n int) int {
	*d = *d*6364136223846793005 + 1442695040888963407
	return int(uint64(*d)>>33) % n
}

// topo is an overlay in which ways lead everywhere.
func (d *dice) topo() api.Topo {
	t := api.Topo{Brokers: 1 + d.roll(api.MaxBrokers), Schema: []api.Field{{Name: "a", Kind: api.Whole}}}
	var at [api.MaxBrokers]int // where the way to each goes on
	for i := 1; i < t.Brokers; i++ {
		at[i] = d.roll(i)
	}
	for i := range t.Brokers {
		for j := i + 1; j < t.Brokers; j++ {
			if at[j] == i || d.roll(3) == 0 {
				t.Lines = append(t.Lines, [2]int{i, j})
			}
		}
	}
	for range 1 + d.roll(api.MaxPubs) {
		t.Pubs = append(t.Pubs, d.roll(t.Brokers))
	}
	texts := []string{"*", "*", "a<3", "a>5", "a=4", "!?a", "#"}
	for range d.roll(api.MaxHosted + 1) {
		t.Subs = append(t.Subs, sub(d.roll(t.Brokers), d.roll(len(t.Pubs)), texts[d.roll(len(texts))]))
	}
	return t
}

// event is one that is told from others by its number.
func (d *dice) event(n int) api.Event {
	e := api.Event{Content: []byte{byte(n), byte(n >> 8), byte(n >> 16)}}
	if d.roll(5) > 0 {
		e.Attrs = priced(int64(d.roll(9)), "").Attrs
	}
	if d.roll(6) == 0 {
		e.Content = append(e.Content, bytes.Repeat([]byte{7}, d.roll(150))...)
	}
	return e
}
