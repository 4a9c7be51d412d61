package stream

import (
	"grapevine/api"
	"grapevine/span"
)

// Tell is what is known of a range, as parcels.
func (s *Stream) Tell(pub, from, to int, links uint32) ([]api.Parcel, api.Errno) {
	if s == nil {
		return nil, api.ErrNil
	}
	if pub < 0 || pub >= api.MaxPubs || from < 1 || from > to || to > api.MaxTick {
		return nil, api.ErrArg
	}
	pieces := s.pieces(from, to, links)
	if len(pieces) == 0 {
		return nil, api.OK
	}
	return cut(pieces, api.Parcel{Kind: api.Tell, Pub: pub, From: from, To: to}), api.OK
}

// piece is a span that is told or, if it is Data, an item.
type piece struct {
	span api.Span
	item api.Item
}

// pieces are what is known of a range, for those who are led to; an item that is for none of them is silence.
func (s *Stream) pieces(from, to int, links uint32) []piece {
	// The map is right, and the range may be.
	known, _ := span.Keep(s.known, from, to)
	var all []piece
	for _, k := range known {
		if k.Is != api.Data {
			all = lay(all, piece{span: k})
			continue
		}
		for t := k.From; t <= k.To; t++ {
			all = lay(all, pieceOf(s.items[t], links))
		}
	}
	return all
}

func pieceOf(item api.Item, links uint32) piece {
	at := api.Span{From: item.Tick, To: item.Tick, Is: api.Data}
	if item.For&links != 0 {
		return piece{at, item}
	}
	at.Is = api.Silence
	return piece{span: at}
}

// lay is pieces with one behind them; a span that goes on with the last one is no piece of its own.
func lay(all []piece, p piece) []piece {
	last := len(all) - 1
	if last < 0 || p.span.Is == api.Data || p.span.Is != all[last].span.Is || p.span.From != all[last].span.To+1 {
		return append(all, p)
	}
	all[last].span.To = p.span.To
	return all
}

// cut is pieces in Tells, one behind the other, of which the last one ends where tell, that has none of them yet, does.
func cut(pieces []piece, tell api.Parcel) []api.Parcel {
	var tells []api.Parcel
	for _, p := range pieces {
		if isFull(tell, p) {
			rest := api.Parcel{Kind: tell.Kind, Pub: tell.Pub, From: p.span.From, To: tell.To}
			tell.To = p.span.From - 1
			tells = append(tells, tell)
			tell = rest
		}
		if p.span.Is == api.Data {
			tell.Items = append(tell.Items, cloned(p.item))
		} else {
			tell.Spans = append(tell.Spans, p.span)
		}
	}
	return append(tells, tell)
}

// isFull: has a Tell no room for a piece?
func isFull(tell api.Parcel, p piece) bool {
	if p.span.Is == api.Data {
		return len(tell.Items) == api.MaxItems
	}
	return len(tell.Spans) == api.MaxNews
}
