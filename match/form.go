package match

import "grapevine/api"

// form is what a box has, in arrays: a map can't hold lists against each other. Behind the last side stand zeros, which are no side.
type form [api.MaxAttrs]side

// side is an api.Side with its discs in arrays.
type side struct {
	name      string
	kind      api.Kind
	absent    bool
	low, high int64
	from, to  string
	open      bool
	truths    uint8
	none      bool
	ins, outs discs
}

// discs are counted, for zeros are a disc too.
type discs struct {
	count int
	all   [api.MaxDiscs]api.Disc
}

// formOf is the form of a right box.
func formOf(b []api.Side) form {
	var f form
	for i, s := range b {
		f[i] = side{s.Name, s.Kind, s.Absent, s.Low, s.High, s.From, s.To, s.Open, s.Truths, s.None, discsOf(s.Ins), discsOf(s.Outs)}
	}
	return f
}

func discsOf(l []api.Disc) discs {
	d := discs{count: len(l)}
	copy(d.all[:], l)
	return d
}

// box is the box of a form.
func (f form) box() []api.Side {
	var b []api.Side
	for _, s := range f {
		if s.kind == api.NoKind {
			break
		}
		b = append(b, api.Side{
			Name: s.name, Kind: s.kind, Absent: s.absent,
			Low: s.low, High: s.high,
			From: s.from, To: s.to, Open: s.open,
			Truths: s.truths,
			None:   s.none, Ins: s.ins.list(), Outs: s.outs.list(),
		})
	}
	return b
}

func (d discs) list() []api.Disc {
	var l []api.Disc
	return append(l, d.all[:d.count]...)
}
