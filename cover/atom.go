package cover

import (
	"math"

	"grapevine/api"
)

// atomTruth is the boxes of an atom about an attribute of a kind.
func atomTruth(kind api.Kind, atom api.Term) truth {
	bare := api.Side{Name: atom.Name, Kind: kind}
	switch {
	case atom.Cmp == api.Has:
		return truth{boxesOf(allOf(bare)), boxesOf(orNone(nothingOf(bare)))}
	case kind == api.Truth:
		return truthTruth(bare, atom)
	case kind == api.Point:
		return pointTruth(bare, atom)
	}
	return orderTruth(bare, atom)
}

// boxesOf is a box of each side, but of those that let nothing through.
func boxesOf(sides ...api.Side) [][]api.Side {
	var l [][]api.Side
	for _, side := range sides {
		if !letsNothing(side) {
			l = append(l, []api.Side{told(side)})
		}
	}
	return l
}

func orNone(side api.Side) api.Side {
	side.Absent = true
	return side
}

// allOf is a bare side with all of its kind within; of a Point that is the bare side.
func allOf(bare api.Side) api.Side {
	switch bare.Kind {
	case api.Whole, api.Words:
		return between(bare, nowhere(), nowhere())
	case api.Truth:
		bare.Truths = bothBits
	}
	return bare
}

// nothingOf is a bare side with nothing within; of Words and a Truth that is the bare side.
func nothingOf(bare api.Side) api.Side {
	switch bare.Kind {
	case api.Whole:
		bare.Low, bare.High = 1, 0
	case api.Point:
		bare.None = true
	}
	return bare
}

func truthTruth(bare api.Side, atom api.Term) truth {
	wanted := atom.Cmp == api.Is || atom.Value.Truth == (atom.Cmp == api.Equal)
	own, contrary := bare, bare
	own.Truths, contrary.Truths = truthBit(wanted), truthBit(!wanted)
	return truth{boxesOf(own), boxesOf(orNone(contrary))}
}

func pointTruth(bare api.Side, atom api.Term) truth {
	disc := api.Disc{X: int(real(atom.Value.Point)), Y: int(imag(atom.Value.Point))}
	// Of the others the Radius counts for nothing.
	if atom.Cmp == api.Near {
		disc.R = atom.Radius
	}
	in, out := bare, bare
	in.Ins, out.Outs = []api.Disc{disc}, []api.Disc{disc}
	if atom.Cmp == api.Other {
		return truth{boxesOf(out), boxesOf(orNone(in))}
	}
	return truth{boxesOf(in), boxesOf(orNone(out))}
}

// orderTruth is the boxes of an atom about whole numbers or words.
func orderTruth(bare api.Side, atom api.Term) truth {
	v := atom.Value
	below := between(bare, nowhere(), ahead(v))
	upTo := between(bare, nowhere(), past(v))
	only := between(bare, ahead(v), past(v))
	from := between(bare, ahead(v), nowhere())
	above := between(bare, past(v), nowhere())
	switch atom.Cmp {
	case api.Equal:
		return truth{boxesOf(only), boxesOf(orNone(below), above)}
	case api.Other:
		return truth{boxesOf(below, above), boxesOf(orNone(only))}
	case api.Less:
		return truth{boxesOf(below), boxesOf(orNone(from))}
	case api.Most:
		return truth{boxesOf(upTo), boxesOf(orNone(above))}
	case api.More:
		return truth{boxesOf(above), boxesOf(orNone(upTo))}
	case api.Least:
		return truth{boxesOf(from), boxesOf(orNone(below))}
	}
	end := pastBegun(v.Words)
	if end.nowhere {
		return truth{boxesOf(from), boxesOf(orNone(below))}
	}
	return truth{boxesOf(between(bare, ahead(v), end)), boxesOf(orNone(below), between(bare, end, nowhere()))}
}

// border is where a row of values begins or ends: ahead of a value, past it, or nowhere.
type border struct {
	value         api.Value
	past, nowhere bool
}

func ahead(v api.Value) border { return border{value: v} }

func past(v api.Value) border { return border{value: v, past: true} }

func nowhere() border { return border{nowhere: true} }

// pastBegun is the border past all texts that begin with words.
func pastBegun(words string) border {
	left := len(words)
	for left > 0 && words[left-1] == 0xff {
		left--
	}
	if left == 0 {
		return nowhere()
	}
	next := []byte(words[:left])
	next[left-1]++
	return ahead(api.Value{Kind: api.Words, Words: string(next)})
}

// between is a bare side with what lies from one border to the other one within.
func between(bare api.Side, from, to border) api.Side {
	if bare.Kind == api.Whole {
		return wholeBetween(bare, from, to)
	}
	bare.From, bare.To, bare.Open = firstWords(from), firstWords(to), to.nowhere
	return bare
}

// firstWords is the least text behind a border; it is empty for nowhere, where the first one of all is, and an Open side has no To.
func firstWords(b border) string {
	if b.past {
		return b.value.Words + "\x00"
	}
	return b.value.Words
}

func wholeBetween(bare api.Side, from, to border) api.Side {
	low, isLow := firstWhole(from)
	high, isHigh := lastWhole(to)
	if !isLow || !isHigh {
		return nothingOf(bare)
	}
	bare.Low, bare.High = low, high
	return bare
}

// firstWhole is the least number behind a border; false, if there is none.
func firstWhole(b border) (int64, bool) {
	switch {
	case b.nowhere:
		return math.MinInt64, true
	case !b.past:
		return b.value.Whole, true
	case b.value.Whole == math.MaxInt64:
		return 0, false
	}
	return b.value.Whole + 1, true
}

// lastWhole is the greatest number ahead of a border; false, if there is none.
func lastWhole(b border) (int64, bool) {
	switch {
	case b.nowhere:
		return math.MaxInt64, true
	case b.past:
		return b.value.Whole, true
	case b.value.Whole == math.MinInt64:
		return 0, false
	}
	return b.value.Whole - 1, true
}
