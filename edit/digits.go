package edit

import "jobshop/api"

// maxDigit is the greatest half of a byte that is a digit; at the right of a byte, the greater ones are signs.
const maxDigit = 9

// digits takes the digits of packed numbers, which lie one after the other in source.
type digits struct {
	source []byte // from the byte of the next digit on
	right  bool   // the next digit is the right half of that byte, which is no sign
}

// take returns the next digit, whether a plus sign follows it, and 0. The code is api.CodeAddressing if source has no further byte, and api.CodeData if its left half is no digit.
func (d *digits) take() (digit byte, plus bool, code int) {
	if len(d.source) == 0 {
		return 0, false, api.CodeAddressing
	}
	left, right := d.source[0]>>4, d.source[0]&0xF
	switch {
	case d.right:
		d.next()
		return right, false, api.CodeNone
	case left > maxDigit:
		return 0, false, api.CodeData
	case right > maxDigit:
		d.next()
		return left, isPlus(right), api.CodeNone
	}
	d.right = true
	return left, false, api.CodeNone
}

// next moves to the left half of the next byte.
func (d *digits) next() {
	d.source = d.source[1:]
	d.right = false
}

// isPlus reports whether a sign is plus.
func isPlus(sign byte) bool {
	return sign != 0xB && sign != 0xD
}
