package pred

import (
	"grapevine/api"
	"grapevine/event"
	"grapevine/octet"
	"grapevine/value"
)

// Put is a predicate's bytes.
func Put(l []api.Term) ([]byte, api.Errno) {
	if fault := Check(l); fault != api.OK {
		return nil, fault
	}
	out := octet.Uint(uint64(len(l)))
	for _, term := range l {
		out = append(out, byte(term.Op))
		if term.Op == api.Atom {
			out = appendAtom(out, term)
		}
	}
	return out, api.OK
}

// appendAtom puts what stands behind the Op; Check let through what Text and value.Put have limits for.
func appendAtom(out []byte, atom api.Term) []byte {
	text, _ := octet.Text(atom.Name)
	out = append(out, text...)
	out = append(out, byte(atom.Cmp))
	if hasValue(atom.Cmp) {
		body, _ := value.Put(atom.Value)
		out = append(out, body...)
	}
	if atom.Cmp == api.Near {
		out = append(out, octet.Uint(uint64(atom.Radius))...)
	}
	return out
}

// Take is the predicate at a place, and the place behind it.
func Take(b []byte, at int) ([]api.Term, int, api.Errno) {
	count, next, fault := octet.TakeUint(b, at)
	if fault != api.OK {
		return nil, 0, fault
	}
	if count > api.MaxTerms {
		return nil, 0, api.ErrLimit
	}
	var terms []api.Term
	for range count {
		term, behind, fault := takeTerm(b, next)
		if fault != api.OK {
			return nil, 0, fault
		}
		terms = append(terms, term)
		next = behind
	}
	if fault := Check(terms); fault != api.OK {
		return nil, 0, fault
	}
	return terms, next, api.OK
}

func takeTerm(b []byte, at int) (api.Term, int, api.Errno) {
	if at == len(b) {
		return api.Term{}, 0, api.ErrShort
	}
	op := api.Op(b[at])
	if op < api.Yes || op > api.Or {
		return api.Term{}, 0, api.ErrArg
	}
	if op == api.Atom {
		return takeAtom(b, at+1)
	}
	return api.Term{Op: op}, at + 1, api.OK
}

// takeAtom is the atom whose Op stands ahead of a place.
func takeAtom(b []byte, at int) (api.Term, int, api.Errno) {
	text, next, fault := octet.TakeText(b, at)
	if fault != api.OK {
		return api.Term{}, 0, fault
	}
	if !event.Name(text) {
		return api.Term{}, 0, api.ErrName
	}
	if next == len(b) {
		return api.Term{}, 0, api.ErrShort
	}
	atom := api.Term{Op: api.Atom, Name: text, Cmp: api.Cmp(b[next])}
	if !isCmp(atom.Cmp) {
		return api.Term{}, 0, api.ErrArg
	}
	next++
	if hasValue(atom.Cmp) {
		if atom.Value, next, fault = takeValue(b, next, atom.Cmp); fault != api.OK {
			return api.Term{}, 0, fault
		}
	}
	if atom.Cmp == api.Near {
		if atom.Radius, next, fault = takeRadius(b, next); fault != api.OK {
			return api.Term{}, 0, fault
		}
	}
	return atom, next, api.OK
}

func takeValue(b []byte, at int, cmp api.Cmp) (api.Value, int, api.Errno) {
	v, next, fault := value.Take(b, at)
	if fault != api.OK {
		return api.Value{}, 0, fault
	}
	if !mayBe(cmp, v.Kind) {
		return api.Value{}, 0, api.ErrType
	}
	return v, next, api.OK
}

func takeRadius(b []byte, at int) (int, int, api.Errno) {
	radius, next, fault := octet.TakeUint(b, at)
	if fault != api.OK {
		return 0, 0, fault
	}
	if radius > api.MaxPart {
		return 0, 0, api.ErrArg
	}
	return int(radius), next, api.OK
}
