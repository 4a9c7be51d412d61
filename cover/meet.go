package cover

import (
	"slices"

	"grapevine/api"
	"grapevine/value"
)

// nothingWithin: has a side nothing within?
func nothingWithin(side api.Side) bool {
	switch side.Kind {
	case api.Whole:
		return side.Low > side.High
	case api.Words:
		return !side.Open && side.From >= side.To
	case api.Truth:
		return side.Truths&bothBits == 0
	}
	return side.None
}

// told is a side as it is told: in one way alone, where it has nothing within.
func told(side api.Side) api.Side {
	if !nothingWithin(side) {
		return side
	}
	return nothingOf(api.Side{Name: side.Name, Kind: side.Kind, Absent: side.Absent})
}

// letsNothing: is there no event that a side lets through?
func letsNothing(side api.Side) bool { return !side.Absent && nothingWithin(side) }

// meet is the meet of two boxes, none of whose lists lies in them; false, if it is empty.
func meet(a, b []api.Side) ([]api.Side, bool) {
	var sides []api.Side
	for len(a) > 0 || len(b) > 0 {
		switch {
		case len(b) == 0 || len(a) > 0 && a[0].Name < b[0].Name:
			sides = append(sides, copied(a[0]))
			a = a[1:]
		case len(a) == 0 || b[0].Name < a[0].Name:
			sides = append(sides, copied(b[0]))
			b = b[1:]
		default:
			sides = append(sides, meetSides(a[0], b[0]))
			a, b = a[1:], b[1:]
		}
	}
	if slices.ContainsFunc(sides, letsNothing) {
		return nil, false
	}
	return sides, true
}

func copied(side api.Side) api.Side {
	side.Ins = slices.Clone(side.Ins)
	side.Outs = slices.Clone(side.Outs)
	return side
}

// meetSides is the meet of two sides of one name and kind.
func meetSides(a, b api.Side) api.Side {
	both := api.Side{Name: a.Name, Kind: a.Kind, Absent: a.Absent && b.Absent}
	switch a.Kind {
	case api.Whole:
		both.Low, both.High = max(a.Low, b.Low), min(a.High, b.High)
	case api.Words:
		both.From = max(a.From, b.From)
		both.To, both.Open = lesserEnd(a, b)
	case api.Truth:
		both.Truths = a.Truths & b.Truths
	case api.Point:
		both.Ins, both.Outs = together(a.Ins, b.Ins), together(a.Outs, b.Outs)
		both.None = a.None || b.None || noneLeft(both.Ins, both.Outs)
	}
	return told(both)
}

// lesserEnd is the To of two sides, and whether they are Open both.
func lesserEnd(a, b api.Side) (string, bool) {
	switch {
	case a.Open:
		return b.To, b.Open
	case b.Open:
		return a.To, false
	}
	return min(a.To, b.To), false
}

// together is the first list, and of the second one what is not there yet.
func together(first, second []api.Disc) []api.Disc {
	all := slices.Clone(first)
	for _, d := range second {
		if !slices.Contains(all, d) {
			all = append(all, d)
		}
	}
	return all
}

// noneLeft: do the discs show that no point is left: by two Ins that are apart, or an In that an Out takes away?
func noneLeft(ins, outs []api.Disc) bool {
	for i, in := range ins {
		if slices.ContainsFunc(ins[i+1:], func(d api.Disc) bool { return liesApart(in, d) }) {
			return true
		}
		if slices.ContainsFunc(outs, func(d api.Disc) bool { return liesWithin(in, d) }) {
			return true
		}
	}
	return false
}

// middles is the square of how far the middles of two discs are apart.
func middles(a, b api.Disc) int {
	apart, _ := value.Apart(middle(a), middle(b))
	return apart
}

func liesApart(a, b api.Disc) bool { return middles(a, b) > (a.R+b.R)*(a.R+b.R) }

func liesWithin(inner, outer api.Disc) bool {
	return inner.R <= outer.R && middles(inner, outer) <= (outer.R-inner.R)*(outer.R-inner.R)
}
