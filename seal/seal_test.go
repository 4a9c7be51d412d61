package seal_test

import (
	"bytes"
	"encoding/binary"
	"math"
	"testing"

	"grapevine/api"
	"grapevine/seal"
)

// slowSum goes bit by bit, in the document's words, from a register that is given.
func slowSum(sum uint32, b []byte) uint32 {
	register := ^sum
	for _, c := range b {
		register ^= uint32(c)
		for range 8 {
			out := register & 1
			register >>= 1
			if out == 1 {
				register ^= 0x82f63b78
			}
		}
	}
	return ^register
}

// noise is bytes of no plain pattern, the same ones at each run.
func noise(n int, start uint32) []byte {
	b := make([]byte, n)
	for i := range b {
		start = start*1664525 + 1013904223
		b[i] = byte(start >> 24)
	}
	return b
}

// raw is a seal made by hand, of a length that may be wrong.
func raw(kind byte, length int, body []byte) []byte {
	b := append([]byte{0xa7, kind, byte(length), byte(length >> 8)}, body...)
	return binary.LittleEndian.AppendUint32(b, slowSum(0, b[1:]))
}

func mustSeal(t *testing.T, kind byte, b []byte) []byte {
	t.Helper()
	out, fault := seal.Seal(kind, b)
	if fault != api.OK {
		t.Fatalf("Seal of %d bytes: error %d", len(b), fault)
	}
	return out
}

func wantFault(t *testing.T, b []byte, at int, want api.Errno) {
	t.Helper()
	s, next, fault := seal.Open(b, at)
	if fault != want {
		t.Fatalf("Open of %d bytes at %d: error %d, wanted %d", len(b), at, fault, want)
	}
	if s.Kind != 0 || s.At != 0 || len(s.Body) != 0 || next != 0 {
		t.Fatalf("Open of %d bytes at %d: error %d beside %v, %d", len(b), at, fault, s, next)
	}
}

func wantSealed(t *testing.T, s api.Sealed, kind byte, at int, body []byte) {
	t.Helper()
	if s.Kind != kind || s.At != at || !bytes.Equal(s.Body, body) {
		t.Fatalf("a seal of kind %d at %d with %d bytes, wanted kind %d at %d with %d", s.Kind, s.At, len(s.Body), kind, at, len(body))
	}
}

// P1.1
func TestSum(t *testing.T) {
	if got := seal.Sum([]byte("123456789")); got != 0xe3069283 {
		t.Fatalf("the example: %08x", got)
	}
	if seal.Sum(nil) != 0 || seal.Sum([]byte{}) != 0 {
		t.Fatal("the sum of no bytes is not 0")
	}
	for c := range 256 {
		b := []byte{byte(c)}
		if got, want := seal.Sum(b), slowSum(0, b); got != want {
			t.Fatalf("byte %02x: %08x, wanted %08x", c, got, want)
		}
	}
	for _, n := range []int{2, 3, 64, 1000, 70000} {
		b := noise(n, uint32(n))
		if got, want := seal.Sum(b), slowSum(0, b); got != want {
			t.Fatalf("%d bytes: %08x, wanted %08x", n, got, want)
		}
	}
}

// P1.1
func TestMore(t *testing.T) {
	for i, sum := range []uint32{0, 1, 0x80000000, 0x48674bc7, 0xffffffff, 0x12345678} {
		for n := range 20 {
			b := noise(n, uint32(i))
			if got, want := seal.More(sum, b), slowSum(sum, b); got != want {
				t.Fatalf("%d bytes behind %08x: %08x, wanted %08x", n, sum, got, want)
			}
		}
		if got := seal.More(sum, nil); got != sum {
			t.Fatalf("nothing behind %08x: %08x", sum, got)
		}
	}
	if b := []byte("grapevine"); seal.More(0, b) != seal.Sum(b) {
		t.Fatal("More(0, b) is not Sum(b)")
	}
}

// P1.2
func TestSealBytes(t *testing.T) {
	for _, kind := range []byte{0, 1, 0x7f, 0xa7, 0xff} {
		for _, n := range []int{0, 1, 2, 255, 256, 257, 4095, 4096} {
			body := noise(n, uint32(kind))
			if got := mustSeal(t, kind, body); !bytes.Equal(got, raw(kind, n, body)) {
				t.Fatalf("kind %d, %d bytes: % x", kind, n, got)
			}
		}
	}
	if got := mustSeal(t, 1, nil); len(got) != 8 || !bytes.Equal(got[:4], []byte{0xa7, 1, 0, 0}) {
		t.Fatalf("the example: % x", got)
	}
	for _, n := range []int{4097, 65535, 65536, 70000} {
		if got, fault := seal.Seal(1, make([]byte, n)); fault != api.ErrLimit || len(got) != 0 {
			t.Fatalf("%d bytes: error %d beside %d bytes", n, fault, len(got))
		}
	}
}

// P1.3: places that may not be go ahead of all else.
func TestOpenPlaces(t *testing.T) {
	b := mustSeal(t, 1, []byte("abc"))
	for _, at := range []int{-1, math.MinInt, len(b) + 1, math.MaxInt, math.MaxInt - 3} {
		wantFault(t, b, at, api.ErrArg)
		wantFault(t, nil, at, api.ErrArg)
	}
	wantFault(t, nil, 1, api.ErrArg)
	wantFault(t, nil, 0, api.ErrShort)
	wantFault(t, []byte{}, 0, api.ErrShort)
	wantFault(t, b, len(b), api.ErrShort)
	for at := 1; at < len(b); at++ {
		wantFault(t, b, at, api.ErrForm)
	}
}

// P1.3: what is told where several faults are there.
func TestOpenOrder(t *testing.T) {
	for _, c := range []struct {
		name string
		b    []byte
		want api.Errno
	}{
		{"not a7, and nothing behind it", []byte{0xa6}, api.ErrForm},
		{"not a7, and a length above the limit", []byte{0x00, 1, 0xff, 0xff}, api.ErrForm},
		{"a7 alone", []byte{0xa7}, api.ErrShort},
		{"two bytes", []byte{0xa7, 1}, api.ErrShort},
		{"three bytes", []byte{0xa7, 1, 0xff}, api.ErrShort},
		{"a length above the limit, and nothing behind it", []byte{0xa7, 1, 0x01, 0x10}, api.ErrLimit},
		{"the greatest length, and nothing behind it", []byte{0xa7, 1, 0xff, 0xff}, api.ErrLimit},
		{"the length at the limit, and nothing behind it", []byte{0xa7, 1, 0x00, 0x10}, api.ErrShort},
		{"no sum", []byte{0xa7, 1, 0, 0}, api.ErrShort},
		{"three bytes of a sum", []byte{0xa7, 1, 0, 0, 9, 9, 9}, api.ErrShort},
		{"another sum", []byte{0xa7, 1, 0, 0, 9, 9, 9, 9}, api.ErrSum},
		{"too long, all of it there with its sum", raw(1, 4097, make([]byte, 4097)), api.ErrLimit},
	} {
		t.Run(c.name, func(t *testing.T) {
			wantFault(t, c.b, 0, c.want)
			wantFault(t, append([]byte{0xa7, 7}, c.b...), 2, c.want)
		})
	}
}

// P1.3
func TestOpenAtLimit(t *testing.T) {
	body := noise(api.MaxBody, 5)
	s, next, fault := seal.Open(append([]byte{0}, raw(0xff, len(body), body)...), 1)
	if fault != api.OK || next != api.MaxBody+9 {
		t.Fatalf("error %d, next %d", fault, next)
	}
	wantSealed(t, s, 0xff, 1, body)
}

// P1.4
func TestScan(t *testing.T) {
	one, two := mustSeal(t, 1, nil), mustSeal(t, 2, []byte("abc"))
	broken := mustSeal(t, 3, []byte("abcdef"))
	broken[6] ^= 1
	row := bytes.Join([][]byte{{1, 2}, one, {0xa7}, two, broken, two, {0xa7, 9}}, nil)
	l, stray, fault := seal.Scan(row)
	if fault != api.OK || len(l) != 3 || stray != 2+1+len(broken)+2 {
		t.Fatalf("%d seals, %d bytes of none, error %d", len(l), stray, fault)
	}
	wantSealed(t, l[0], 1, 2, nil)
	wantSealed(t, l[1], 2, 2+8+1, []byte("abc"))
	wantSealed(t, l[2], 2, 2+8+1+11+14, []byte("abc"))
}

// P1.4: a seal within a seal's body belongs to that body, but within one that is none it is told.
func TestScanNested(t *testing.T) {
	inner := mustSeal(t, 4, []byte("in"))
	outer := mustSeal(t, 5, inner)
	l, stray, _ := seal.Scan(outer)
	if len(l) != 1 || stray != 0 {
		t.Fatalf("%d seals, %d bytes of none", len(l), stray)
	}
	wantSealed(t, l[0], 5, 0, inner)
	outer[len(outer)-1] ^= 1
	l, stray, _ = seal.Scan(outer)
	if len(l) != 1 || stray != 8 {
		t.Fatalf("broken: %d seals, %d bytes of none", len(l), stray)
	}
	wantSealed(t, l[0], 4, 4, []byte("in"))
}

// P1.4
func TestScanEdges(t *testing.T) {
	for _, b := range [][]byte{nil, {}} {
		if l, stray, fault := seal.Scan(b); fault != api.OK || len(l) != 0 || stray != 0 {
			t.Fatalf("nothing: %v, %d, %d", l, stray, fault)
		}
	}
	last := mustSeal(t, 9, []byte("end"))
	full := append(make([]byte, api.MaxScan-len(last)), last...)
	l, stray, fault := seal.Scan(full)
	if fault != api.OK || len(l) != 1 || stray != api.MaxScan-len(last) {
		t.Fatalf("at the limit: %d seals, %d bytes of none, error %d", len(l), stray, fault)
	}
	wantSealed(t, l[0], 9, api.MaxScan-len(last), []byte("end"))
	if l, stray, fault := seal.Scan(append(full, 0)); fault != api.ErrLimit || len(l) != 0 || stray != 0 {
		t.Fatalf("past the limit: %d seals, %d bytes of none, error %d", len(l), stray, fault)
	}
	if l, stray, fault := seal.Scan(bytes.Repeat([]byte{0xa7, 0xa7, 0x0f, 0x0f}, api.MaxScan/4)); fault != api.OK || len(l) != 0 || stray != api.MaxScan {
		t.Fatalf("only beginnings: %d seals, %d bytes of none, error %d", len(l), stray, fault)
	}
}

// P1.5
func TestSumOfTwoRows(t *testing.T) {
	b := noise(100, 3)
	for cut := range len(b) + 1 {
		if got, want := seal.More(seal.Sum(b[:cut]), b[cut:]), seal.Sum(b); got != want {
			t.Fatalf("cut at %d: %08x, wanted %08x", cut, got, want)
		}
	}
}

// P1.6
func TestSumWithItself(t *testing.T) {
	for _, n := range []int{0, 1, 2, 5, 64, 4096} {
		b := noise(n, uint32(n))
		if got := seal.Sum(binary.LittleEndian.AppendUint32(b, seal.Sum(b))); got != 0x48674bc7 {
			t.Fatalf("%d bytes: %08x", n, got)
		}
	}
}

// P1.7: whatever stands around.
func TestOpenOfSeal(t *testing.T) {
	for _, kind := range []byte{0, 1, 0xa7, 0xff} {
		for _, n := range []int{0, 1, 3, 64, 300, 4096} {
			body := noise(n, uint32(n))
			for _, around := range [][]byte{nil, {0xa7}, {0xa7, 1, 0, 0}, noise(50, 9)} {
				row := bytes.Join([][]byte{around, mustSeal(t, kind, body), around}, nil)
				s, next, fault := seal.Open(row, len(around))
				if fault != api.OK || next != len(around)+n+8 {
					t.Fatalf("kind %d, %d bytes behind %d: next %d, error %d", kind, n, len(around), next, fault)
				}
				wantSealed(t, s, kind, len(around), body)
			}
		}
	}
}

// P1.7: a seal that is cut short is none.
func TestSealCutShort(t *testing.T) {
	for _, n := range []int{0, 1, 30} {
		b := mustSeal(t, 1, noise(n, 2))
		for cut := range b {
			wantFault(t, b[:cut], 0, api.ErrShort)
		}
	}
}

// P1.7: up to four bytes behind the length are changed.
func TestSealChanged(t *testing.T) {
	for _, n := range []int{0, 1, 40} {
		b := mustSeal(t, 1, noise(n, 4))
		for at := 4; at < len(b); at++ {
			for width := 1; width <= 4 && at+width <= len(b); width++ {
				for try := range uint32(8) {
					spoilt := bytes.Clone(b)
					for i, c := range noise(width, try) {
						spoilt[at+i] ^= c | 1<<(try%8)
					}
					wantFault(t, spoilt, 0, api.ErrSum)
				}
			}
		}
	}
	b := mustSeal(t, 1, []byte("abc"))
	b[1] ^= 0x10
	wantFault(t, b, 0, api.ErrSum)
}

// P1.8
func TestScanFindsAll(t *testing.T) {
	for _, ahead := range [][]byte{nil, {1}, bytes.Repeat([]byte{0xa6, 0}, 20)} {
		row := bytes.Clone(ahead)
		var want []api.Sealed
		for i := range 60 {
			body := noise(i*3, uint32(i))
			want = append(want, api.Sealed{Kind: byte(i), At: len(row), Body: body})
			row = append(row, mustSeal(t, byte(i), body)...)
		}
		l, stray, fault := seal.Scan(row)
		if fault != api.OK || len(l) != len(want) || stray != len(ahead) {
			t.Fatalf("behind %d bytes: %d seals, %d bytes of none, error %d", len(ahead), len(l), stray, fault)
		}
		for i, w := range want {
			wantSealed(t, l[i], w.Kind, w.At, w.Body)
		}
	}
}

// P3: what is handed in stays as it is, spare room too.
func TestHandedInStays(t *testing.T) {
	whole := append(mustSeal(t, 1, []byte("abc")), noise(40, 1)...)
	before := bytes.Clone(whole)
	b := whole[:11]
	seal.Sum(b)
	seal.More(7, b)
	seal.Seal(2, b)
	seal.Open(b, 0)
	seal.Scan(b)
	if !bytes.Equal(whole, before) {
		t.Fatal("what was handed in is changed")
	}
}

// P3: what is answered is new memory.
func TestAnsweredIsNew(t *testing.T) {
	body := []byte("abc")
	sealed := mustSeal(t, 1, body)
	body[0] = 'x'
	if string(sealed[4:7]) != "abc" {
		t.Fatal("Seal's answer lies in what was handed in")
	}
	row := append(bytes.Clone(sealed), mustSeal(t, 2, []byte("def"))...)
	s, _, _ := seal.Open(row, 0)
	l, _, _ := seal.Scan(row)
	again, _, _ := seal.Scan(row)
	clear(row)
	if string(s.Body) != "abc" || string(l[0].Body) != "abc" || string(l[1].Body) != "def" {
		t.Fatal("a body lies in what was handed in")
	}
	clear(s.Body)
	l[0].Body = append(l[0].Body, "spilt over the end"...)
	clear(l[0].Body)
	if string(l[1].Body) != "def" || string(again[0].Body) != "abc" {
		t.Fatal("two bodies lie in one another")
	}
}

// P1: no bytes and no place make it panic.
func FuzzAnyBytes(f *testing.F) {
	f.Add([]byte{}, 0)
	f.Add([]byte{0xa7, 1, 0, 0, 1, 2, 3, 4}, 0)
	f.Add(raw(1, 3, []byte("abc")), 0)
	f.Fuzz(func(t *testing.T, b []byte, at int) {
		if s, next, fault := seal.Open(b, at); fault == api.OK && !bytes.Equal(mustSeal(t, s.Kind, s.Body), b[at:next]) {
			t.Fatal("what is opened was not sealed so")
		}
		l, stray, fault := seal.Scan(b)
		if fault == api.OK {
			for _, s := range l {
				stray += len(s.Body) + 8
			}
			if stray != len(b) {
				t.Fatal("bytes are counted twice, or not at all")
			}
		}
	})
}
