package decimal_test

import (
	"fmt"
	"math"
	"math/big"
	"strings"
	"testing"

	"jobshop/decimal"
)

// pairing is a function of two fields.
type pairing struct {
	name string
	call func(a, b []byte) outcome
	want func(a, b []byte) outcome
}

func pairings() []pairing {
	three := func(f func(a, b []byte) ([]byte, int, int)) func(a, b []byte) outcome {
		return func(a, b []byte) outcome {
			r, cc, code := f(a, b)
			return outcome{toHex(r), cc, code}
		}
	}
	two := func(f func(a, b []byte) ([]byte, int)) func(a, b []byte) outcome {
		return func(a, b []byte) outcome {
			r, code := f(a, b)
			return outcome{toHex(r), 0, code}
		}
	}
	compare := func(a, b []byte) outcome {
		cc, code := decimal.Compare(a, b)
		return outcome{"", cc, code}
	}
	return []pairing{
		{"Add", three(decimal.Add), wantAdd},
		{"Sub", three(decimal.Sub), wantSub},
		{"Compare", compare, wantCompare},
		{"Multiply", two(decimal.Multiply), wantMultiply},
		{"Divide", two(decimal.Divide), wantDivide},
	}
}

func (p pairing) check(t *testing.T, a, b []byte) {
	t.Helper()
	if got, want := p.call(a, b), p.want(a, b); got != want {
		t.Errorf("%s of [% X] and [% X] = %v, want %v", p.name, a, b, got, want)
	}
}

func checkZap(t *testing.T, n int, b []byte) {
	t.Helper()
	r, cc, code := decimal.Zap(n, b)
	if got, want := (outcome{toHex(r), cc, code}), wantZap(n, b); got != want {
		t.Errorf("Zap(%d, [% X]) = %v, want %v", n, b, got, want)
	}
}

func checkShift(t *testing.T, a []byte, n, round int) {
	t.Helper()
	r, cc, code := decimal.Shift(a, n, round)
	if got, want := (outcome{toHex(r), cc, code}), wantShift(a, n, round); got != want {
		t.Errorf("Shift([% X], %d, %d) = %v, want %v", a, n, round, got, want)
	}
}

// digitsOf are texts of n digits.
func digitsOf(n int) []string {
	return []string{
		fit("", n),
		fit("1", n),
		strings.Repeat("9", n),
		fit("8"+strings.Repeat("0", n-1), n),
		fit(strings.Repeat("1234567890", 4), n),
		fit("5"+strings.Repeat("0", n/2), n),
		fit(strings.Repeat("9", n/2), n),
	}
}

// fieldsOf are valid fields of n bytes.
func fieldsOf(n int) [][]byte {
	var all [][]byte
	for i, digits := range digitsOf(2*n - 1) {
		all = append(all, hx(digits+"C"), hx(digits+"D"), hx(digits+"AEF"[i%3:i%3+1]), hx(digits+"B"))
	}
	return all
}

// TestPairs has P4.1 to P4.4: fields of all lengths, with all lengths.
func TestPairs(t *testing.T) {
	for _, p := range pairings() {
		for n := 1; n <= 16; n++ {
			for m := 1; m <= 16; m++ {
				for i, a := range fieldsOf(n) {
					for j, b := range fieldsOf(m) {
						if (i+j)%2 == 0 || n == m {
							p.check(t, a, b)
						}
					}
				}
			}
		}
	}
}

// TestShortPairs has P4.1 to P4.4: all pairs of bytes, valid or not, and all pairs of a field of two bytes and a field of one.
func TestShortPairs(t *testing.T) {
	for _, p := range pairings() {
		for i := range 256 {
			for j := range 256 {
				p.check(t, []byte{byte(i)}, []byte{byte(j)})
				p.check(t, []byte{0x00, byte(i)}, []byte{byte(j)})
			}
		}
		for i := range 1000 {
			for j := range 10 {
				for _, signs := range []string{"CC", "CD", "DC", "DD"} {
					p.check(t, hx(fit(fmt.Sprint(i), 3)+signs[:1]), hx(fmt.Sprint(j)+signs[1:]))
				}
			}
		}
	}
}

// TestJustFits has sums, differences and copies that just fit a field, and that are just too long (P4.1).
func TestJustFits(t *testing.T) {
	for n := 1; n <= 16; n++ {
		most, next := strings.Repeat("9", 2*n-1), strings.Repeat("9", 2*n-2)+"8"
		for _, p := range pairings()[:2] {
			for _, b := range []string{"0C", "1C", "2C", "0D", "1D", "2D", fit("1C", 22), fit("2D", 32)} {
				for _, sign := range []string{"C", "D"} {
					p.check(t, hx(most+sign), hx(b))
					p.check(t, hx(next+sign), hx(b))
				}
			}
		}
		for m := 1; m <= 16; m++ {
			for _, sign := range []string{"C", "D", "B", "F"} {
				checkZap(t, m, hx(most+sign))
				checkZap(t, m, hx(fit("1"+strings.Repeat("0", min(2*m-1, 2*n-2)), 2*n-1)+sign))
				checkZap(t, m, hx(fit(strings.Repeat("9", min(2*m-1, 2*n-1)), 2*n-1)+sign))
			}
		}
	}
}

// TestZap is the part of P4.1 about Zap: fields of all lengths into fields of all lengths, and all fields of two bytes.
func TestZap(t *testing.T) {
	for n := -1; n <= 18; n++ {
		for m := 1; m <= 16; m++ {
			for _, b := range fieldsOf(m) {
				checkZap(t, n, b)
			}
		}
		checkZap(t, n, nil)
		checkZap(t, n, make([]byte, 17))
		checkZap(t, n, hx(fit("1C", 34)))
		checkZap(t, n, hx("12"))
		checkZap(t, n, hx("A1 2C"))
	}
	for i := range 1 << 16 {
		b := []byte{byte(i >> 8), byte(i)}
		checkZap(t, 1, b)
		checkZap(t, 2, b)
		checkZap(t, 3, b)
	}
	for _, n := range []int{math.MinInt, math.MinInt + 1, -16, 17, 256, 257, 1 << 32, 1<<32 + 1, 1 << 62, 1<<62 + 1, math.MaxInt} {
		checkZap(t, n, hx("1C"))
		checkZap(t, n, hx("11"))
		checkZap(t, n, nil)
	}
}

// TestWrongLengths has the codes of P4.1 to P4.4 for fields of wrong lengths, valid fields and invalid ones, where several codes apply, too.
func TestWrongLengths(t *testing.T) {
	for _, p := range pairings() {
		for n := 0; n <= 20; n++ {
			for m := 0; m <= 20; m++ {
				for _, a := range []string{fit("5C", 2*n), fit("5D", 2*n), fit("51", 2*n), fit("CC", 2*n), strings.Repeat("7A", n)} {
					for _, b := range []string{fit("3C", 2*m), fit("0D", 2*m), fit("35", 2*m), fit("CC", 2*m), strings.Repeat("7A", m)} {
						p.check(t, hx(a), hx(b))
					}
				}
			}
		}
		p.check(t, nil, nil)
		p.check(t, make([]byte, 1000), hx("1C"))
		p.check(t, hx("001C"), make([]byte, 1000))
		p.check(t, hx(fit("1C", 512)), hx(fit("1C", 514)))
	}
}

// TestInvalidFields has fields of all lengths with each of the 16 digits at each place (P4.1 to P4.6).
func TestInvalidFields(t *testing.T) {
	for n := 1; n <= 16; n++ {
		for _, base := range []string{fit("C", 2*n), fit("123D", 2*n)} {
			for i := range 2 * n {
				for _, digit := range "0123456789ABCDEF" {
					b := hx(base[:i] + string(digit) + base[i+1:])
					for _, p := range pairings() {
						p.check(t, b, hx("7C"))
						p.check(t, hx(fit("7D", 2*min(n+1, 16))), b)
						p.check(t, hx(fit("7D", 32)), b)
					}
					checkZap(t, 16, b)
					checkShift(t, b, 1, 0)
					checkShift(t, b, -1, 9)
					checkToBinary(t, b)
				}
			}
		}
	}
}

// TestMultiply has products of the largest numbers, and first operands with a leading byte that is not 0 (P4.3).
func TestMultiply(t *testing.T) {
	p := pairings()[3]
	for n := 2; n <= 16; n++ {
		for m := 1; m <= 8 && m < n; m++ {
			for _, signs := range []string{"CC", "CD", "DC", "DD", "FB", "BE", "BB"} {
				most := strings.Repeat("9", 2*m-1) + signs[1:]
				p.check(t, hx(fit(strings.Repeat("9", 2*(n-m)-1), 2*n-1)+signs[:1]), hx(most))
				p.check(t, hx(fit(strings.Repeat("9", 2*(n-m)), 2*n-1)+signs[:1]), hx(most))
				p.check(t, hx(fit("1"+strings.Repeat("0", 2*(n-m)-1), 2*n-1)+signs[:1]), hx(most))
				p.check(t, hx(fit(signs[:1], 2*n)), hx(most))
				p.check(t, hx(fit("7"+signs[:1], 2*n)), hx(fit(signs[1:], 2*m)))
			}
			for i := range n {
				a := hx(fit("1C", 2*n))
				a[i] |= 0x10
				p.check(t, a, hx(fit("9D", 2*m)))
			}
		}
	}
}

// TestDivide has quotients with one digit too many and with just enough, remainders that are zero or as large as can be, and all signs (P4.4).
func TestDivide(t *testing.T) {
	p := pairings()[4]
	one := big.NewInt(1)
	for n := 2; n <= 16; n++ {
		for m := 1; m <= 8 && m < n; m++ {
			limit := new(big.Int).Exp(big.NewInt(10), big.NewInt(int64(2*(n-m)-1)), nil)
			for _, b := range append(digitsOf(2*m-1), fit("2", 2*m-1), fit("7", 2*m-1), fit("10", 2*m-1)) {
				divisor, _ := new(big.Int).SetString(b, 10)
				if divisor.Sign() == 0 {
					continue
				}
				least := new(big.Int).Mul(divisor, limit)
				most := new(big.Int).Sub(least, one)
				even := new(big.Int).Sub(least, divisor)
				for _, a := range []*big.Int{least, most, even, new(big.Int).Add(even, one), new(big.Int).Add(least, one), divisor, new(big.Int).Add(divisor, one), new(big.Int)} {
					for _, signs := range []string{"CC", "CD", "DC", "DD", "FB", "BE", "BB"} {
						p.check(t, hx(fit(a.String(), 2*n-1)+signs[:1]), hx(b+signs[1:]))
					}
				}
			}
		}
	}
}

// TestShift is P4.5: fields of all lengths with all shifts, those of one byte with all rounding digits.
func TestShift(t *testing.T) {
	for size := 1; size <= 16; size++ {
		for n := -34; n <= 33; n++ {
			for _, a := range fieldsOf(size) {
				for _, round := range []int{0, 1, 2, 4, 5, 9} {
					checkShift(t, a, n, round)
				}
			}
		}
	}
	for i := range 256 {
		for n := -34; n <= 33; n++ {
			for round := -2; round <= 11; round++ {
				checkShift(t, []byte{byte(i)}, n, round)
			}
		}
	}
}

// TestRounding has each last digit with each rounding digit, in numbers whose rest has few digits, many, or only nines (P4.5).
func TestRounding(t *testing.T) {
	for size := 2; size <= 16; size++ {
		for digit := range 10 {
			for round := range 10 {
				for drop := 1; drop < 2*size-1; drop++ {
					for _, rest := range []string{"0", "1", strings.Repeat("9", 31)} {
						for _, last := range []string{"0", "9"} {
							a := fit(rest, 2*size-1-drop) + fmt.Sprint(digit) + strings.Repeat(last, drop-1)
							checkShift(t, hx(a+"CD"[digit%2:][:1]), -drop, round)
						}
					}
				}
			}
		}
	}
}

// TestShiftFails has the invalid arguments of P4.5, where several codes apply, too.
func TestShiftFails(t *testing.T) {
	fields := [][]byte{nil, {}, hx("1C"), hx("12"), hx("CC"), hx("12 34 5D"), hx(fit("7C", 32)), hx(fit("77", 32)), hx(fit("1C", 34)), make([]byte, 17), make([]byte, 300)}
	numbers := []int{math.MinInt, math.MinInt + 1, -1 << 32, -33, -32, -31, -1, 0, 1, 5, 9, 10, 11, 31, 32, 63, 64, 256, 1 << 32, 1<<32 + 5, math.MaxInt - 1, math.MaxInt}
	for _, a := range fields {
		for _, n := range numbers {
			for _, round := range numbers {
				checkShift(t, a, n, round)
			}
		}
	}
}

func checkToBinary(t *testing.T, b []byte) {
	t.Helper()
	v, code := decimal.ToBinary(b)
	if want, wantCode := wantToBinary(b); v != want || code != wantCode {
		t.Errorf("ToBinary of [% X] = %08X, %d, want %08X, %d", b, v, code, want, wantCode)
	}
}

// edges are numbers at and beyond the ends of the ranges of 31, 32 and 15 decimal digits, and others.
func edges() []int64 {
	all := []int64{0, 1, 2, 9, 10, 99, 12345, 999999999999999, 999999999999998, 123456789012345, 100000000000000}
	for _, shift := range []int{7, 8, 15, 16, 30, 31, 32, 33, 40, 48} {
		for d := int64(-2); d <= 2; d++ {
			all = append(all, 1<<shift+d)
		}
	}
	return all
}

// TestToBinary is the part of P4.6 about ToBinary.
func TestToBinary(t *testing.T) {
	for _, v := range edges() {
		for _, sign := range "ABCDEF0159" {
			checkToBinary(t, hx(fit(fmt.Sprint(v), 15)+string(sign)))
		}
	}
	for _, b := range fieldsOf(8) {
		checkToBinary(t, b)
	}
}

// TestToBinaryFails has fields of wrong lengths, valid or not (P4.6).
func TestToBinaryFails(t *testing.T) {
	for n := 0; n <= 40; n++ {
		for _, b := range []string{fit("1C", 2*n), fit("1D", 2*n), fit("11", 2*n), strings.Repeat("CC", n)} {
			checkToBinary(t, hx(b))
		}
	}
	checkToBinary(t, nil)
	checkToBinary(t, make([]byte, 264))
}

// TestFromBinary is the part of P4.6 about FromBinary.
func TestFromBinary(t *testing.T) {
	check := func(v uint32) {
		t.Helper()
		n := big.NewInt(int64(int32(v)))
		want, _ := wantField(n, n.Sign() < 0, 8)
		if b := decimal.FromBinary(v); toHex(b) != want {
			t.Errorf("FromBinary of %08X = %s, want %s", v, toHex(b), want)
		}
	}
	for _, v := range edges() {
		check(uint32(v))
		check(uint32(-v))
	}
	for i := range 100000 {
		check(uint32(i) * 2654435761)
	}
}
