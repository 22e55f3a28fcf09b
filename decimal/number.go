package decimal

import (
	"cmp"
	"math/bits"

	"jobshop/api"
)

// pair is a number from 0 to 2^128 - 1: hi times 2^64, plus lo. No magnitude wraps around: that of a field is below 10^31, that of a sum of two below 2 * 10^31, and that of a product below 10^30, because Multiply demands leading zeros.
type pair struct{ hi, lo uint64 }

// number is a decimal number: a sign, which zero has too, and a magnitude.
type number struct {
	neg  bool
	size pair
}

// numberOf returns the value of d, which is valid.
func numberOf(d api.Dec) number {
	x := number{neg: d.Neg}
	for i := range len(d.Digits) {
		digit := uint64(d.Digits[i] - '0')
		x.size = x.size.times(10).plus(pair{lo: digit})
	}
	return x
}

func (x pair) plus(y pair) pair {
	lo, carry := bits.Add64(x.lo, y.lo, 0)
	hi, _ := bits.Add64(x.hi, y.hi, carry)
	return pair{hi, lo}
}

// minus returns x minus y, which is not greater than x.
func (x pair) minus(y pair) pair {
	lo, borrow := bits.Sub64(x.lo, y.lo, 0)
	hi, _ := bits.Sub64(x.hi, y.hi, borrow)
	return pair{hi, lo}
}

func (x pair) times(y uint64) pair {
	hi, lo := bits.Mul64(x.lo, y)
	return pair{hi + x.hi*y, lo}
}

// dividedBy returns the quotient and the remainder of x and y, which is not zero.
func (x pair) dividedBy(y uint64) (quotient pair, rest uint64) {
	hi, rest := bits.Div64(0, x.hi, y)
	lo, rest := bits.Div64(rest, x.lo, y)
	return pair{hi, lo}, rest
}

// compare returns -1, 0 or 1 as x is less than y, equal to it, or greater.
func (x pair) compare(y pair) int {
	return cmp.Or(cmp.Compare(x.hi, y.hi), cmp.Compare(x.lo, y.lo))
}

// drop returns x without its last n digits, plus 1 if the first of them plus round is 10 or more.
func (x pair) drop(n int, round uint64) pair {
	var digit uint64
	for range n {
		x, digit = x.dividedBy(10)
	}
	if digit+round >= 10 {
		return x.plus(pair{lo: 1})
	}
	return x
}

// add returns the sum of x and y; if it is zero, its sign has no meaning.
func add(x, y number) number {
	if x.neg == y.neg {
		return number{x.neg, x.size.plus(y.size)}
	}
	if x.size.compare(y.size) < 0 {
		x, y = y, x
	}
	return number{x.neg, x.size.minus(y.size)}
}

// subtract returns the difference of x and y; if it is zero, its sign has no meaning.
func subtract(x, y number) number {
	y.neg = !y.neg
	return add(x, y)
}

// condition returns the condition code of x.
func (x number) condition() int {
	switch {
	case x.size == pair{}:
		return ccZero
	case x.neg:
		return ccMinus
	}
	return ccPlus
}
