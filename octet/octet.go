// Package octet is layer 2: numbers and texts as bytes, each in one way alone, and numbers as bytes that stand in their order.
package octet

import "grapevine/api"

const (
	maxUint = 10      // bytes that 64 bits need, seven a byte
	more    = 0x80    // the bit of a byte behind which others follow
	keyLen  = 8       // bytes of a Key
	keyTurn = 1 << 63 // added, it puts the numbers below 0 ahead of the others
)

// Uint is a number, seven bits a byte.
func Uint(n uint64) []byte { return putUint(nil, n) }

func putUint(out []byte, n uint64) []byte {
again:
	if n >= more {
		out = append(out, byte(n)|more)
		n >>= 7
		goto again
	}
	return append(out, byte(n))
}

// TakeUint is the number at a place, and the place behind it.
func TakeUint(b []byte, at int) (uint64, int, api.Errno) {
	if at < 0 || at > len(b) {
		return 0, 0, api.ErrArg
	}
	var n uint64
	taken := 0
again:
	if at+taken == len(b) {
		return 0, 0, api.ErrShort
	}
	c := b[at+taken]
	// A tenth byte has room for the last of 64 bits alone, and none may follow it.
	if taken == maxUint-1 && c > 1 {
		return 0, 0, api.ErrLimit
	}
	n |= uint64(c&^more) << (7 * taken)
	taken++
	if c&more != 0 {
		goto again
	}
	if c == 0 && taken > 1 {
		return 0, 0, api.ErrForm
	}
	return n, at + taken, api.OK
}

// Int is a number that may be below 0.
func Int(n int64) []byte { return Uint(fold(n)) }

// TakeInt is the number at a place, and the place behind it.
func TakeInt(b []byte, at int) (int64, int, api.Errno) {
	folded, next, fault := TakeUint(b, at)
	if fault != api.OK {
		return 0, 0, fault
	}
	return unfold(folded), next, api.OK
}

// fold works by bits, for -2 n - 1 has no room in an int64.
func fold(n int64) uint64 {
	if n < 0 {
		return ^(uint64(n) << 1)
	}
	return uint64(n) << 1
}

func unfold(folded uint64) int64 {
	half := int64(folded >> 1)
	if folded&1 != 0 {
		return ^half
	}
	return half
}

// Text is a text behind its length.
func Text(s string) ([]byte, api.Errno) {
	if len(s) > api.MaxText {
		return nil, api.ErrLimit
	}
	return append(Uint(uint64(len(s))), s...), api.OK
}

// TakeText is the text at a place, and the place behind it.
func TakeText(b []byte, at int) (string, int, api.Errno) {
	from, to, fault := takeRange(b, at, api.MaxText)
	if fault != api.OK {
		return "", 0, fault
	}
	return string(b[from:to]), to, api.OK
}

// takeRange is where the bytes begin and end that stand behind their length at a place.
func takeRange(b []byte, at, limit int) (int, int, api.Errno) {
	length, from, fault := TakeUint(b, at)
	if fault != api.OK {
		return 0, 0, fault
	}
	if length > uint64(limit) {
		return 0, 0, api.ErrLimit
	}
	if int(length) > len(b)-from {
		return 0, 0, api.ErrShort
	}
	return from, from + int(length), api.OK
}

// Key is a number in bytes that stand in the numbers' order.
func Key(n int64) []byte {
	turned := uint64(n) ^ keyTurn
	out := make([]byte, keyLen)
	for i := range out {
		out[i] = byte(turned >> (8 * (keyLen - 1 - i)))
	}
	return out
}

// TakeKey is the number whose Key stands at a place, and the place behind it.
func TakeKey(b []byte, at int) (int64, int, api.Errno) {
	if at < 0 || at > len(b) {
		return 0, 0, api.ErrArg
	}
	if len(b)-at < keyLen {
		return 0, 0, api.ErrShort
	}
	var turned uint64
	for _, c := range b[at : at+keyLen] {
		turned = turned<<8 | uint64(c)
	}
	return int64(turned ^ keyTurn), at + keyLen, api.OK
}

// Join is parts, one behind the other, each behind its length.
func Join(parts ...[]byte) ([]byte, api.Errno) {
	if len(parts) > api.MaxParts {
		return nil, api.ErrLimit
	}
	for _, part := range parts {
		if len(part) > api.MaxBody {
			return nil, api.ErrLimit
		}
	}
	out := Uint(uint64(len(parts)))
	for _, part := range parts {
		out = putUint(out, uint64(len(part)))
		out = append(out, part...)
	}
	return out, api.OK
}

// TakeJoin is the parts at a place, and the place behind them.
func TakeJoin(b []byte, at int) ([][]byte, int, api.Errno) {
	count, next, fault := TakeUint(b, at)
	if fault != api.OK {
		return nil, 0, fault
	}
	if count > api.MaxParts {
		return nil, 0, api.ErrLimit
	}
	parts := make([][]byte, count)
	for i := range parts {
		from, to, fault := takeRange(b, next, api.MaxBody)
		if fault != api.OK {
			return nil, 0, fault
		}
		parts[i] = make([]byte, to-from)
		copy(parts[i], b[from:to])
		next = to
	}
	return parts, next, api.OK
}
