package broker

import (
	"iter"
	"slices"

	"grapevine/api"
	"grapevine/cover"
	"grapevine/event"
)

// Check is what is wrong with an overlay.
func Check(t api.Topo) api.Errno {
	if t.Brokers < 1 || t.Brokers > api.MaxBrokers || len(t.Pubs) < 1 || len(t.Pubs) > api.MaxPubs || len(t.Subs) > api.MaxHosted {
		return api.ErrLimit
	}
	if fault := event.CheckSchema(t.Schema); fault != api.OK {
		return fault
	}
	if !linesMayBe(t) || !placesMayBe(t) {
		return api.ErrArg
	}
	for _, s := range t.Subs {
		if _, fault := cover.Boxes(t.Schema, s.Terms); fault != api.OK {
			return fault
		}
		if far(t, s.Pub, s.Broker) == none {
			return api.ErrGone
		}
	}
	return api.OK
}

// linesMayBe: do the lines rise, and is each between two brokers, the lesser one first?
func linesMayBe(t api.Topo) bool {
	ahead := [2]int{-1, -1}
	for _, line := range t.Lines {
		if slices.Compare(line[:], ahead[:]) <= 0 || line[0] < 0 || line[0] >= line[1] || line[1] >= t.Brokers {
			return false
		}
		ahead = line
	}
	return true
}

// placesMayBe: is all that is at a broker, or of a publisher, at one, and of one, that there is?
func placesMayBe(t api.Topo) bool {
	for _, at := range t.Pubs {
		if !isBroker(t, at) {
			return false
		}
	}
	for _, s := range t.Subs {
		if !isBroker(t, s.Broker) || !isPub(t, s.Pub) {
			return false
		}
	}
	return true
}

func isBroker(t api.Topo, at int) bool { return at >= 0 && at < t.Brokers }

func isPub(t api.Topo, pub int) bool { return pub >= 0 && pub < len(t.Pubs) }

// isPlace: is it a publisher and a broker of an overlay that may be?
func isPlace(t api.Topo, pub, at int) bool {
	return Check(t) == api.OK && isPub(t, pub) && isBroker(t, at)
}

// Far is how far a broker is from a publisher's one.
func Far(t api.Topo, pub, at int) int {
	if !isPlace(t, pub, at) {
		return none
	}
	return far(t, pub, at)
}

// Up are the neighbours that are nearer.
func Up(t api.Topo, pub, at int) []int {
	if !isPlace(t, pub, at) {
		return nil
	}
	return farther(t, pub, at, -1)
}

// Down are the neighbours that are farther.
func Down(t api.Topo, pub, at int) []int {
	if !isPlace(t, pub, at) {
		return nil
	}
	return farther(t, pub, at, 1)
}

// Reach are the subscriptions to which ways go down from a broker.
func Reach(t api.Topo, pub, at int) uint32 {
	if !isPlace(t, pub, at) {
		return 0
	}
	return reach(t, pub, at)
}

// none is how far it is where no way goes.
const none = -1

// far is Far of an overlay whose lines and places may be: ring by ring around the publisher's broker.
func far(t api.Topo, pub, at int) int {
	ring := []int{t.Pubs[pub]}
	seen := slices.Clone(ring)
	for away := 0; len(ring) > 0; away++ {
		if slices.Contains(ring, at) {
			return away
		}
		var next []int
		for _, broker := range ring {
			for _, other := range neighbours(t, broker) {
				if !slices.Contains(seen, other) {
					seen = append(seen, other)
					next = append(next, other)
				}
			}
		}
		ring = next
	}
	return none
}

// neighbours are the brokers to which one has a line; they rise, as the lines do.
func neighbours(t api.Topo, at int) []int {
	var l []int
	for _, line := range t.Lines {
		switch at {
		case line[0]:
			l = append(l, line[1])
		case line[1]:
			l = append(l, line[0])
		}
	}
	return l
}

// farther are the neighbours that are so much farther from a publisher's broker, of one to which a way goes.
func farther(t api.Topo, pub, at, by int) []int {
	here := far(t, pub, at)
	if here == none {
		return nil
	}
	return slices.DeleteFunc(neighbours(t, at), func(other int) bool { return far(t, pub, other) != here+by })
}

// reach is Reach of an overlay that may be.
func reach(t api.Topo, pub, at int) uint32 {
	all := bitsOf(subs(t, func(s api.Sub) bool { return s.Pub == pub && s.Broker == at }))
	for _, other := range farther(t, pub, at, 1) {
		all |= reach(t, pub, other)
	}
	return all
}

// subs are the subscriptions that are asked for, by their numbers, rising.
func subs(t api.Topo, isAsked func(api.Sub) bool) iter.Seq2[int, api.Sub] {
	return func(yield func(int, api.Sub) bool) {
		for i, s := range t.Subs {
			if isAsked(s) && !yield(i+1, s) {
				return
			}
		}
	}
}

// bit is that of a subscription's number.
func bit(id int) uint32 { return 1 << (id - 1) }

// bitsOf are the bits of subscriptions.
func bitsOf(some iter.Seq2[int, api.Sub]) uint32 {
	var all uint32
	for id := range some {
		all |= bit(id)
	}
	return all
}
