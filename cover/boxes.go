package cover

import (
	"slices"

	"grapevine/api"
	"grapevine/pred"
)

// truth is one that stands, as the boxes of where it holds, and of where its contrary does.
type truth struct {
	own, contrary [][]api.Side
}

// Boxes is a predicate's boxes.
func Boxes(s []api.Field, l []api.Term) ([][]api.Side, api.Errno) {
	if fault := pred.Fits(s, l); fault != api.OK {
		return nil, fault
	}
	var truths []truth
	for _, term := range l {
		truths = done(truths, term, s)
		if pastLimits(truths[len(truths)-1]) {
			return nil, api.ErrLimit
		}
	}
	return truths[0].own, api.OK
}

func pastLimits(t truth) bool {
	crowded := func(box []api.Side) bool { return slices.ContainsFunc(box, tooMany) }
	over := func(l [][]api.Side) bool { return len(l) > api.MaxBoxes || slices.ContainsFunc(l, crowded) }
	return over(t.own) || over(t.contrary)
}

// done is the truths that stand behind a term; pred.Fits has seen that it finds those that it works on.
func done(truths []truth, term api.Term, s []api.Field) []truth {
	last := len(truths) - 1
	switch term.Op {
	case api.Yes:
		return append(truths, truth{own: [][]api.Side{nil}})
	case api.No:
		return append(truths, truth{contrary: [][]api.Side{nil}})
	case api.Atom:
		return append(truths, atomTruth(kindOf(s, term.Name), term))
	case api.Not:
		return append(truths[:last], truth{truths[last].contrary, truths[last].own})
	case api.And:
		return append(truths[:last-1], joined(truths[last-1], truths[last], meets, behind))
	}
	return append(truths[:last-1], joined(truths[last-1], truths[last], behind, meets))
}

func kindOf(s []api.Field, name string) api.Kind {
	at := slices.IndexFunc(s, func(field api.Field) bool { return field.Name == name })
	return s[at].Kind
}

// joined is two truths in one, by a way for what is their own and one for their contraries.
func joined(a, b truth, own, contrary func(a, b [][]api.Side) [][]api.Side) truth {
	return truth{own(a.own, b.own), contrary(a.contrary, b.contrary)}
}

// behind is one list behind the other one.
func behind(a, b [][]api.Side) [][]api.Side { return slices.Concat(a, b) }

// meets is the meets of each with each, without empty ones.
func meets(a, b [][]api.Side) [][]api.Side {
	var all [][]api.Side
	eachPair(a, b, func(first, second []api.Side) {
		if both, ok := meet(first, second); ok {
			all = append(all, both)
		}
	})
	return all
}

func eachPair(a, b [][]api.Side, take func(first, second []api.Side)) {
	for _, first := range a {
		for _, second := range b {
			take(first, second)
		}
	}
}
