package pred

import (
	"strconv"
	"strings"

	"grapevine/api"
)

// wordKind is what a word of a text is.
type wordKind int

const (
	ending wordKind = iota // no word: the text's end
	sign
	name
	number
	quoted
)

// word is a word of a text.
type word struct {
	kind wordKind
	at   int       // where its first byte stands
	text string    // of a sign and a name their bytes, of a string those that it stands for
	n    int64     // of a number
	late api.Errno // what is wrong with it where it goes on: that it does not go on is named ahead of this
}

// mistake is what a panic carries up from wherever a text is wrong.
type mistake struct {
	at int
	is api.Errno
}

// readWord is the first word from a place on, and the place behind it.
func readWord(text string, at int) (word, int) {
again:
	if at == len(text) {
		return word{kind: ending, at: at}, at
	}
	switch c := text[at]; {
	case c == ' ':
		at++
		goto again
	case isLetter(c):
		return readName(text, at)
	case c == '-' || isDigit(c):
		return readNumber(text, at)
	case c == '"':
		return readString(text, at)
	}
	return readSign(text, at)
}

func isLetter(c byte) bool { return c >= 'a' && c <= 'z' }

func isDigit(c byte) bool { return c >= '0' && c <= '9' }

func isNameByte(c byte) bool { return isLetter(c) || isDigit(c) || c == '-' }

// behindRun is the place behind the bytes of a sort that stand from a place on.
func behindRun(text string, at int, belongs func(byte) bool) int {
again:
	if at < len(text) && belongs(text[at]) {
		at++
		goto again
	}
	return at
}

func readName(text string, at int) (word, int) {
	next := behindRun(text, at, isNameByte)
	w := word{kind: name, at: at, text: text[at:next]}
	if next-at > api.MaxName {
		w.late = api.ErrName
	}
	return w, next
}

func readNumber(text string, at int) (word, int) {
	first := at
	if text[at] == '-' {
		first++
	}
	next := behindRun(text, first, isDigit)
	if !isOneWay(text[first:next], first > at) {
		panic(mistake{at, api.ErrForm})
	}
	w := word{kind: number, at: at}
	n, err := strconv.ParseInt(text[at:next], 10, 64)
	if err != nil {
		w.late = api.ErrLimit
	}
	w.n = n
	return w, next
}

// isOneWay: are digits, behind a - or not, the one way in which their number is written?
func isOneWay(digits string, below bool) bool {
	if digits == "" {
		return false
	}
	return digits[0] != '0' || len(digits) == 1 && !below
}

func readString(text string, at int) (word, int) {
	var body []byte
	next := at + 1
again:
	c, width := stringByte(text[next:])
	if width == 0 {
		panic(mistake{at, api.ErrForm})
	}
	next += width
	if c != '"' || width > 1 {
		body = append(body, c)
		goto again
	}
	w := word{kind: quoted, at: at, text: string(body)}
	if len(body) > api.MaxText {
		w.late = api.ErrLimit
	}
	return w, next
}

// stringByte is the byte for which the first bytes of the rest of a string stand, and how many these are; 0, if they may not stand there.
func stringByte(rest string) (byte, int) {
	switch {
	case rest == "":
		return 0, 0
	case rest[0] != '\\':
		if !isPlain(rest[0]) {
			return 0, 0
		}
		return rest[0], 1
	case len(rest) >= 2 && (rest[1] == '"' || rest[1] == '\\'):
		return rest[1], 2
	case len(rest) >= 4 && rest[1] == 'x':
		high, low := strings.IndexByte(hexDigits, rest[2]), strings.IndexByte(hexDigits, rest[3])
		if high >= 0 && low >= 0 {
			return byte(high<<4 | low), 4
		}
	}
	return 0, 0
}

const hexDigits = "0123456789abcdef"

// isPlain: may a byte stand in a string for itself, or behind a \ ?
func isPlain(c byte) bool { return c >= 32 && c <= 126 }

func readSign(text string, at int) (word, int) {
	next := at
	switch text[at] {
	case '!', '<', '>':
		if at+1 < len(text) && text[at+1] == '=' {
			next++
		}
		fallthrough
	case '(', ')', ',', '/', '&', '|', '?', '*', '#', '=', '^', '~':
		next++
	default:
		panic(mistake{at, api.ErrForm})
	}
	return word{kind: sign, at: at, text: text[at:next]}, next
}
