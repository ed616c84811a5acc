// Package word is layer 1: numbers of 32 bits; see shared/doc/01-word.md.
package word

import (
	"math/bits"
	"strconv"

	"selfsame/api"
)

const hexDigits = "0123456789abcdef"

// Add is a and b, and 1 more, if c; with carry and overflow.
func Add(a, b uint32, c bool) (uint32, bool, bool) {
	sum, carry := bits.Add32(a, b, one(c))
	return sum, carry == 1, outside(int64(int32(a)) + int64(int32(b)) + int64(one(c)))
}

// Sub is a less b, and 1 less, if c; with borrow and overflow.
func Sub(a, b uint32, c bool) (uint32, bool, bool) {
	diff, borrow := bits.Sub32(a, b, one(c))
	return diff, borrow == 1, outside(int64(int32(a)) - int64(int32(b)) - int64(one(c)))
}

func one(c bool) uint32 {
	if c {
		return 1
	}
	return 0
}

func outside(n int64) bool { return n != int64(int32(n)) }

// Mul is the product's low word and its high word.
func Mul(a, b uint32, signed bool) (uint32, uint32) {
	if signed {
		p := uint64(int64(int32(a)) * int64(int32(b)))
		return uint32(p), uint32(p >> 32)
	}
	high, low := bits.Mul32(a, b)
	return low, high
}

// Div is the quotient, rounded down, and what is left.
func Div(a, b uint32) (uint32, uint32, api.Errno) {
	x, y := int64(int32(a)), int64(int32(b))
	if y <= 0 {
		return 0, 0, api.ErrArg
	}
	q, r := x/y, x%y
	if r < 0 {
		q, r = q-1, r+y
	}
	return uint32(q), uint32(r), api.OK
}

// Left shifts to the left.
func Left(a, n uint32) uint32 { return a << (n & 31) }

// Right shifts to the right; the highest bit stays what it was.
func Right(a, n uint32) uint32 { return uint32(int32(a) >> (n & 31)) }

// Turn turns to the right.
func Turn(a, n uint32) uint32 { return bits.RotateLeft32(a, -int(n&31)) }

// Extend is the signed number that the lowest bits are.
func Extend(a uint32, bits int) uint32 {
	n := uint(32 - min(max(bits, 1), 32))
	return uint32(int32(a<<n) >> n)
}

// Less: is the signed a below the signed b?
func Less(a, b uint32) bool { return int32(a) < int32(b) }

// Bytes are the words' bytes, one behind the other.
func Bytes(l ...uint32) []byte {
	b := make([]byte, 0, 4*len(l))
	for _, w := range l {
		b = append(b, byte(w), byte(w>>8), byte(w>>16), byte(w>>24))
	}
	return b
}

// Of are the words of bytes.
func Of(b []byte) ([]uint32, api.Errno) {
	if len(b)%4 != 0 {
		return nil, api.ErrBytes
	}
	l := make([]uint32, 0, len(b)/4)
	for i := 0; i < len(b); i += 4 {
		l = append(l, uint32(b[i])|uint32(b[i+1])<<8|uint32(b[i+2])<<16|uint32(b[i+3])<<24)
	}
	return l, api.OK
}

// Dec is the decimal text of the signed number.
func Dec(a uint32) string { return strconv.Itoa(int(int32(a))) }

// OfDec is the word of a decimal text.
func OfDec(s string) (uint32, api.Errno) {
	var n int64
	minus := false
text:
	for i, r := range s {
		switch {
		case r == '-' && i == 0:
			minus = true
		case '0' <= r && r <= '9' && n < 1<<32:
			n = 10*n + int64(r-'0')
		default:
			n = 1 << 40
			break text
		}
	}
	if minus {
		n = -n
	}
	// A text is right just if it is the one that the number has.
	if outside(n) || Dec(uint32(n)) != s {
		return 0, api.ErrBytes
	}
	return uint32(n), api.OK
}

// Hex are the 8 hexadecimal digits.
func Hex(a uint32) string {
	var b [8]byte
	for i := range b {
		b[i] = hexDigits[a>>(28-4*i)&15]
	}
	return string(b[:])
}

// OfHex is the word of 8 hexadecimal digits.
func OfHex(s string) (uint32, api.Errno) {
	var a uint32
	if len(s) != 8 {
		return 0, api.ErrBytes
	}
	wrong := false
text:
	for _, r := range s {
		switch {
		case '0' <= r && r <= '9':
			a = a<<4 | uint32(r-'0')
		case 'a' <= r && r <= 'f':
			a = a<<4 | uint32(r-'a'+10)
		default:
			wrong = true
			break text
		}
	}
	if wrong {
		return 0, api.ErrBytes
	}
	return a, api.OK
}
