package pred

import (
	"strconv"
	"strings"

	"grapevine/api"
)

// bind is how firmly a text holds together.
type bind int

const (
	bindAny  bind = iota // parts with | between
	bindAll              // parts with & between
	bindUnit             // no part of it can be torn off
)

// piece is the text of a truth that stands.
type piece struct {
	text string
	bind bind
}

// Print is a predicate as a text.
func Print(l []api.Term) (string, api.Errno) {
	if fault := Check(l); fault != api.OK {
		return "", fault
	}
	var pieces []piece
	for _, term := range l {
		pieces = printed(pieces, term)
	}
	text := pieces[0].text
	if len(text) > api.MaxPred {
		return "", api.ErrLimit
	}
	return text, api.OK
}

// printed is the pieces that stand behind a term; Check has seen that it finds those that it works on.
func printed(pieces []piece, term api.Term) []piece {
	last := len(pieces) - 1
	switch term.Op {
	case api.Yes:
		return append(pieces, piece{"*", bindUnit})
	case api.No:
		return append(pieces, piece{"#", bindUnit})
	case api.Atom:
		return append(pieces, piece{atomText(term), bindUnit})
	case api.Not:
		return append(pieces[:last], piece{"!" + pieces[last].held(bindUnit), bindUnit})
	case api.And:
		return append(pieces[:last-1], joined(pieces[last-1], pieces[last], " & ", bindAll))
	}
	return append(pieces[:last-1], joined(pieces[last-1], pieces[last], " | ", bindAny))
}

// joined is two pieces in one: the second one must hold firmer than the sign, for the first two of several are joined first.
func joined(first, second piece, between string, by bind) piece {
	return piece{first.held(by) + between + second.held(by+1), by}
}

// held is a piece's text as it stands where it must hold at least so firmly.
func (p piece) held(least bind) string {
	if p.bind < least {
		return "(" + p.text + ")"
	}
	return p.text
}

func atomText(atom api.Term) string {
	switch atom.Cmp {
	case api.Has:
		return "?" + atom.Name
	case api.Is:
		return atom.Name
	case api.Near:
		return atom.Name + cmpSign(atom.Cmp) + valueText(atom.Value) + "/" + strconv.Itoa(atom.Radius)
	}
	return atom.Name + cmpSign(atom.Cmp) + valueText(atom.Value)
}

func valueText(v api.Value) string {
	switch v.Kind {
	case api.Whole:
		return strconv.FormatInt(v.Whole, 10)
	case api.Words:
		return stringText(v.Words)
	case api.Truth:
		if v.Truth {
			return yes
		}
		return no
	}
	return "(" + partText(real(v.Point)) + "," + partText(imag(v.Point)) + ")"
}

// partText goes by a whole number, which is 0 of -0.
func partText(part float64) string { return strconv.FormatInt(int64(part), 10) }

func stringText(words string) string {
	var text strings.Builder
	text.WriteByte('"')
	for i := range len(words) {
		switch c := words[i]; {
		case c == '"' || c == '\\':
			text.WriteByte('\\')
			text.WriteByte(c)
		case isPlain(c):
			text.WriteByte(c)
		default:
			text.WriteString(`\x`)
			text.WriteByte(hexDigits[c>>4])
			text.WriteByte(hexDigits[c&15])
		}
	}
	text.WriteByte('"')
	return text.String()
}
