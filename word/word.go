// Package word reads and writes big-endian fields and provides the 32-bit arithmetic, comparisons and shifts of the processor, with condition codes. It is layer 1: see shared/doc/01-word.md.
//
// A word is a uint32 that is interpreted as a signed number in two's complement unless a function says logical. Condition codes of arithmetic are 0 for zero, 1 for negative, 2 for positive, and 3 for overflow.
package word

const (
	wordSign   uint32 = 1 << 31
	doubleSign uint64 = 1 << 63
)

const ccOver = 3

// Half returns the halfword at index at of b, sign-extended to 32 bits, and true. It returns 0 and false unless at is 0 or more and b has two bytes from index at on.
func Half(b []byte, at int) (uint32, bool) {
	if !within(b, at, 2) {
		return 0, false
	}
	return uint32(int16(join(b[at : at+2]...))), true
}

// Full returns the fullword at index at of b, and true. It returns 0 and false unless at is 0 or more and b has four bytes from index at on.
func Full(b []byte, at int) (uint32, bool) {
	if !within(b, at, 4) {
		return 0, false
	}
	return join(b[at : at+4]...), true
}

// PutHalf returns a copy of b in which the two bytes from index at on are the low 16 bits of v, and true. It returns nil and false where Half returns false.
func PutHalf(b []byte, at int, v uint32) ([]byte, bool) {
	return put(b, at, byte(v>>8), byte(v))
}

// PutFull returns a copy of b in which the four bytes from index at on are v, and true. It returns nil and false where Full returns false.
func PutFull(b []byte, at int, v uint32) ([]byte, bool) {
	return put(b, at, byte(v>>24), byte(v>>16), byte(v>>8), byte(v))
}

// within reports whether b has size bytes from index at on. It subtracts on the side of the length because at + size may wrap around.
func within(b []byte, at, size int) bool {
	return at >= 0 && at <= len(b)-size
}

// join returns the number with the given bytes, the highest one first.
func join(field ...byte) uint32 {
	var v uint32
	for _, x := range field {
		v = v<<8 | uint32(x)
	}
	return v
}

// put returns a copy of b in which the bytes from index at on are those of field, and true, or nil and false if they do not lie within b.
func put(b []byte, at int, field ...byte) ([]byte, bool) {
	if !within(b, at, len(field)) {
		return nil, false
	}
	r := make([]byte, len(b))
	copy(r, b)
	copy(r[at:], field)
	return r, true
}

// Add returns a + b modulo 2^32, its condition code, and whether the signed sum overflows.
func Add(a, b uint32) (sum uint32, cc int, over bool) {
	return narrow(signed(a) + signed(b))
}

// Sub returns a - b modulo 2^32, its condition code, and whether the signed difference overflows.
func Sub(a, b uint32) (diff uint32, cc int, over bool) {
	return narrow(signed(a) - signed(b))
}

// Complement returns 0 - v modulo 2^32, its condition code, and whether it overflows (v is the smallest number).
func Complement(v uint32) (neg uint32, cc int, over bool) {
	return Sub(0, v)
}

// AddLogical returns a + b modulo 2^32, and the condition code: 2 if there is a carry out of the high bit, plus 1 if the result is not zero.
func AddLogical(a, b uint32) (sum uint32, cc int) {
	sum = a + b
	return sum, logicalCode(sum, sum < a)
}

// SubLogical returns a - b modulo 2^32, and the condition code: 2 if a is not below b as unsigned numbers, plus 1 if the result is not zero.
func SubLogical(a, b uint32) (diff uint32, cc int) {
	diff = a - b
	return diff, logicalCode(diff, a >= b)
}

// signed returns the signed value of a word.
func signed(v uint32) int64 {
	return int64(int32(v))
}

// fits reports whether n is a signed 32-bit number.
func fits(n int64) bool {
	return n == int64(int32(n))
}

// narrow returns the result of an operation whose exact result is n: the word, the condition code, and whether the operation overflows.
func narrow(n int64) (r uint32, cc int, over bool) {
	r = uint32(n)
	if !fits(n) {
		return r, ccOver, true
	}
	return r, Test(r), false
}

// logicalCode returns the condition code of a logical sum or difference.
func logicalCode(v uint32, carry bool) int {
	cc := 0
	if carry {
		cc += 2
	}
	if v != 0 {
		cc++
	}
	return cc
}

// Compare returns 0, 1 or 2 if a is equal to, less than, or greater than b as signed numbers.
func Compare(a, b uint32) int {
	return order(int32(a), int32(b))
}

// CompareLogical returns 0, 1 or 2 if a is equal to, less than, or greater than b as unsigned numbers.
func CompareLogical(a, b uint32) int {
	return order(a, b)
}

// Test returns 0, 1 or 2 if v is zero, negative, or positive.
func Test(v uint32) int {
	return order(int32(v), 0)
}

// testDouble does for a double word what Test does for a word.
func testDouble(v uint64) int {
	return order(int64(v), 0)
}

// order returns 0, 1 or 2 if a is equal to, less than, or greater than b.
func order[T int32 | uint32 | int64](a, b T) int {
	switch {
	case a < b:
		return 1
	case a > b:
		return 2
	}
	return 0
}

// Mul returns the high and the low word of the signed 64-bit product of a and b.
func Mul(a, b uint32) (hi, lo uint32) {
	return split(uint64(signed(a) * signed(b)))
}

// Div divides the signed 64-bit number with the words hi and lo by the signed number d, rounding toward zero. It returns the remainder, which is zero or has the sign of the dividend, the quotient, and true. It returns 0, 0 and false if d is 0 or the quotient is not a signed 32-bit number.
func Div(hi, lo, d uint32) (rem, quo uint32, ok bool) {
	if d == 0 {
		return 0, 0, false
	}
	n, m := int64(double(hi, lo)), signed(d)
	// -2^63 / -1 wraps around to -2^63, which does not fit either.
	q := n / m
	if !fits(q) {
		return 0, 0, false
	}
	return uint32(n % m), uint32(q), true
}

// double returns the double word with the words hi and lo.
func double(hi, lo uint32) uint64 {
	return uint64(hi)<<32 | uint64(lo)
}

// split returns the high and the low word of a double word.
func split(v uint64) (hi, lo uint32) {
	return uint32(v >> 32), uint32(v)
}

// ShiftLeft shifts the 31 numeric bits of v left by n modulo 64 places, keeping the sign bit and filling with zeros. It returns the result, its condition code, and whether a bit unlike the sign bit was shifted out of the numeric bits.
func ShiftLeft(v uint32, n int) (r uint32, cc int, over bool) {
	r, over = shiftLeft(v, wordSign, places(n))
	if over {
		return r, ccOver, true
	}
	return r, Test(r), false
}

// ShiftRight shifts v right by n modulo 64 places, filling with copies of the sign bit. It returns the result and its condition code.
func ShiftRight(v uint32, n int) (r uint32, cc int) {
	r = uint32(int32(v) >> places(n))
	return r, Test(r)
}

// ShiftLeftDouble does for the 64-bit number with the words hi and lo, and its 63 numeric bits, what ShiftLeft does for a word.
func ShiftLeftDouble(hi, lo uint32, n int) (rhi, rlo uint32, cc int, over bool) {
	v, over := shiftLeft(double(hi, lo), doubleSign, places(n))
	cc = ccOver
	if !over {
		cc = testDouble(v)
	}
	rhi, rlo = split(v)
	return rhi, rlo, cc, over
}

// ShiftRightDouble does for the 64-bit number with the words hi and lo what ShiftRight does for a word.
func ShiftRightDouble(hi, lo uint32, n int) (rhi, rlo uint32, cc int) {
	v := uint64(int64(double(hi, lo)) >> places(n))
	rhi, rlo = split(v)
	return rhi, rlo, testDouble(v)
}

// ShiftLogical shifts all 32 bits of v by n modulo 64 places, to the left or to the right, filling with zeros.
func ShiftLogical(v uint32, n int, left bool) uint32 {
	return shiftLogical(v, places(n), left)
}

// ShiftLogicalDouble shifts all 64 bits of the number with the words hi and lo by n modulo 64 places, to the left or to the right, filling with zeros.
func ShiftLogicalDouble(hi, lo uint32, n int, left bool) (rhi, rlo uint32) {
	return split(shiftLogical(double(hi, lo), places(n), left))
}

// places returns n modulo 64, from 0 to 63 also for negative n.
func places(n int) uint {
	return uint(n & 63)
}

// shiftLeft shifts the numeric bits of v, all but the sign bit, and reports whether a bit unlike the sign bit was shifted out. It goes place by place because beyond the width of v the zeros that were filled in are shifted out, too.
func shiftLeft[T uint32 | uint64](v, sign T, n uint) (r T, over bool) {
	kept := v & sign
	for range n {
		v <<= 1
		if v&sign != kept {
			over = true
		}
		v = v&^sign | kept
	}
	return v, over
}

// shiftLogical shifts all bits of v.
func shiftLogical[T uint32 | uint64](v T, n uint, left bool) T {
	if left {
		return v << n
	}
	return v >> n
}
