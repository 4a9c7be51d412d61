package pred

import (
	"math"

	"grapevine/api"
)

// Parse is a text's predicate.
func Parse(text string) ([]api.Term, int, api.Errno) {
	if len(text) > api.MaxPred {
		return nil, 0, api.ErrLimit
	}
	terms, found := parse(text)
	if found.is != api.OK {
		return nil, found.at, found.is
	}
	if Check(terms) == api.ErrLimit {
		return nil, len(text), api.ErrLimit
	}
	return terms, 0, api.OK
}

// parse is the terms, or the first mistake, whose is is OK where there is none.
func parse(text string) (terms []api.Term, found mistake) {
	defer func() {
		thrown := recover()
		if thrown == nil {
			return
		}
		first, ok := thrown.(mistake)
		if !ok {
			panic(thrown)
		}
		terms, found = nil, first
	}()
	r := reader{text: text}
	r.advance()
	r.readAny()
	r.need(ending)
	return r.terms, mistake{}
}

// reader goes through a text's words; next is the one that is looked at, behind which the place at is.
type reader struct {
	text  string
	at    int
	next  word
	terms []api.Term
}

func (r *reader) advance() { r.next, r.at = readWord(r.text, r.at) }

// wrong is a mistake at the word that is looked at.
func (r *reader) wrong(is api.Errno) mistake { return mistake{r.next.at, is} }

// pass goes on behind a word that may stand where it does.
func (r *reader) pass() word {
	w := r.next
	if w.late != api.OK {
		panic(r.wrong(w.late))
	}
	r.advance()
	return w
}

func (r *reader) need(kind wordKind) word {
	if r.next.kind != kind {
		panic(r.wrong(api.ErrForm))
	}
	return r.pass()
}

func (r *reader) isSign(text string) bool { return r.next.kind == sign && r.next.text == text }

func (r *reader) needSign(text string) {
	if !r.isSign(text) {
		panic(r.wrong(api.ErrForm))
	}
	r.pass()
}

func (r *reader) add(op api.Op) { r.terms = append(r.terms, api.Term{Op: op}) }

func (r *reader) readAny() {
	r.readAll()
	for r.isSign("|") {
		r.pass()
		r.readAll()
		r.add(api.Or)
	}
}

func (r *reader) readAll() {
	r.readUnit()
	for r.isSign("&") {
		r.pass()
		r.readUnit()
		r.add(api.And)
	}
}

func (r *reader) readUnit() {
	switch {
	case r.isSign("!"):
		r.pass()
		r.readUnit()
		r.add(api.Not)
	case r.isSign("("):
		r.pass()
		r.readAny()
		r.needSign(")")
	case r.isSign("*"):
		r.pass()
		r.add(api.Yes)
	case r.isSign("#"):
		r.pass()
		r.add(api.No)
	case r.isSign("?"):
		r.pass()
		r.terms = append(r.terms, api.Term{Op: api.Atom, Name: r.need(name).text, Cmp: api.Has})
	default:
		r.readAtom()
	}
}

// readAtom reads a name, and what is asked of it.
func (r *reader) readAtom() {
	atom := api.Term{Op: api.Atom, Name: r.need(name).text}
	atom.Cmp = r.readCmp()
	switch atom.Cmp {
	case api.Equal, api.Other:
		atom.Value = r.readValue()
	case api.Less, api.Most, api.More, api.Least:
		atom.Value = r.readOrdered()
	case api.Begins:
		atom.Value = api.Value{Kind: api.Words, Words: r.need(quoted).text}
	case api.Near:
		atom.Value = r.readPoint()
		r.needSign("/")
		atom.Radius = int(r.readNumber(0, api.MaxPart))
	}
	r.terms = append(r.terms, atom)
}

// readCmp reads the sign behind a name; Is has none.
func (r *reader) readCmp() api.Cmp {
	for cmp := api.Equal; cmp <= api.Near; cmp++ {
		if r.isSign(cmpSign(cmp)) {
			r.pass()
			return cmp
		}
	}
	return api.Is
}

// cmpSign is the sign between a name and what stands behind it, of all but Has and Is.
func cmpSign(cmp api.Cmp) string {
	switch cmp {
	case api.Equal:
		return "="
	case api.Other:
		return "!="
	case api.Less:
		return "<"
	case api.Most:
		return "<="
	case api.More:
		return ">"
	case api.Least:
		return ">="
	case api.Begins:
		return "^"
	}
	return "~"
}

func (r *reader) readValue() api.Value {
	switch {
	case r.isSign("("):
		return r.readPoint()
	case r.next.kind == name && (r.next.text == yes || r.next.text == no):
		return api.Value{Kind: api.Truth, Truth: r.pass().text == yes}
	}
	return r.readOrdered()
}

// The names of the truths.
const (
	yes = "yes"
	no  = "no"
)

func (r *reader) readOrdered() api.Value {
	if r.next.kind == quoted {
		return api.Value{Kind: api.Words, Words: r.pass().text}
	}
	return api.Value{Kind: api.Whole, Whole: r.readNumber(math.MinInt64, math.MaxInt64)}
}

func (r *reader) readPoint() api.Value {
	r.needSign("(")
	x := r.readNumber(-api.MaxPart, api.MaxPart)
	r.needSign(",")
	y := r.readNumber(-api.MaxPart, api.MaxPart)
	r.needSign(")")
	return api.Value{Kind: api.Point, Point: complex(float64(x), float64(y))}
}

func (r *reader) readNumber(low, high int64) int64 {
	if r.next.kind == number && (r.next.n < low || r.next.n > high) {
		panic(r.wrong(api.ErrLimit))
	}
	return r.need(number).n
}
