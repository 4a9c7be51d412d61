// Package seal is layer 1: sums of bytes, and seals that are found again among other bytes.
package seal

import "grapevine/api"

const (
	begin   = 0xa7 // the byte that every seal begins with
	headLen = 4    // begin, kind, two bytes of length
	sumLen  = 4
)

// steps holds, for each half byte that leaves the register, what four of its shifts by one bit xor into it.
var steps = [16]uint32{
	0x00000000, 0x105ec76f, 0x20bd8ede, 0x30e349b1,
	0x417b1dbc, 0x5125dad3, 0x61c69362, 0x7198540d,
	0x82f63b78, 0x92a8fc17, 0xa24bb5a6, 0xb21572c9,
	0xc38d26c4, 0xd3d3e1ab, 0xe330a81a, 0xf36e6f75,
}

// Sum is the CRC-32C of bytes.
func Sum(b []byte) uint32 { return More(0, b) }

// More is the CRC-32C of bytes whose sum is known, with b behind them.
func More(sum uint32, b []byte) uint32 {
	register := ^sum
	for _, c := range b {
		register ^= uint32(c)
		register = register>>4 ^ steps[register&15]
		register = register>>4 ^ steps[register&15]
	}
	return ^register
}

// Seal is b with its kind, length and sum.
func Seal(kind byte, b []byte) ([]byte, api.Errno) {
	if len(b) > api.MaxBody {
		return nil, api.ErrLimit
	}
	end := headLen + len(b)
	out := make([]byte, end+sumLen)
	out[0] = begin
	out[1] = kind
	out[2] = byte(len(b))
	out[3] = byte(len(b) >> 8)
	copy(out[headLen:], b)
	putSum(out[end:], Sum(out[1:end]))
	return out, api.OK
}

// Open is the seal at a place, and the place behind it.
func Open(b []byte, at int) (api.Sealed, int, api.Errno) {
	if at < 0 || at > len(b) {
		return api.Sealed{}, 0, api.ErrArg
	}
	rest := b[at:]
	end, fault := bodyEnd(rest)
	if fault != api.OK {
		return api.Sealed{}, 0, fault
	}
	if takeSum(rest[end:]) != Sum(rest[1:end]) {
		return api.Sealed{}, 0, api.ErrSum
	}
	body := make([]byte, end-headLen)
	copy(body, rest[headLen:end])
	return api.Sealed{Kind: rest[1], At: at, Body: body}, at + end + sumLen, api.OK
}

// Scan is all seals that are found, and how many bytes belong to none.
func Scan(b []byte) ([]api.Sealed, int, api.Errno) {
	if len(b) > api.MaxScan {
		return nil, 0, api.ErrLimit
	}
	var found []api.Sealed
	stray := 0
	for at := 0; at < len(b); {
		sealed, next, fault := Open(b, at)
		if fault != api.OK {
			stray++
			at++
			continue
		}
		found = append(found, sealed)
		at = next
	}
	return found, stray, api.OK
}

// bodyEnd is where the body ends of the seal that b begins with, if all of the seal's bytes are there.
func bodyEnd(b []byte) (int, api.Errno) {
	if len(b) == 0 {
		return 0, api.ErrShort
	}
	if b[0] != begin {
		return 0, api.ErrForm
	}
	if len(b) < headLen {
		return 0, api.ErrShort
	}
	length := int(b[2]) | int(b[3])<<8
	if length > api.MaxBody {
		return 0, api.ErrLimit
	}
	if len(b)-headLen < length+sumLen {
		return 0, api.ErrShort
	}
	return headLen + length, api.OK
}

// putSum lays a sum, the lowest byte first, into the first bytes of b, of which there are enough.
func putSum(b []byte, sum uint32) {
	for i := range sumLen {
		b[i] = byte(sum >> (8 * i))
	}
}

// takeSum is the sum that putSum laid into the first bytes of b.
func takeSum(b []byte) uint32 {
	var sum uint32
	for i := range sumLen {
		sum |= uint32(b[i]) << (8 * i)
	}
	return sum
}
