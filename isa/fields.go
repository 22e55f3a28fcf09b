package isa

import (
	"iter"

	"jobshop/api"
)

// fields yields the fields that the format of i has, in the order of their bits after the operation code: the place of the value, and how many bits it takes. Bits that no field uses are yielded as well, with a zero that lies outside of i.
func fields(i *api.Ins) iter.Seq2[*int, int] {
	return func(yield func(value *int, bits int) bool) {
		unused := 0
		half := func(value *int) bool { return yield(value, 4) }
		whole := func(value *int) bool { return yield(value, 8) }
		first := func() bool { return half(&i.B1) && yield(&i.D1, 12) }
		second := func() bool { return half(&i.B2) && yield(&i.D2, 12) }
		// The && operators end the sequence where the loop over it ends.
		switch i.Form {
		case api.FormRR:
			_ = half(&i.R1) && half(&i.R2)
		case api.FormRR1:
			_ = half(&i.R1) && half(&unused)
		case api.FormRRI:
			whole(&i.I2)
		case api.FormRX:
			_ = half(&i.R1) && half(&i.X2) && second()
		case api.FormRS:
			_ = half(&i.R1) && half(&i.R2) && second()
		case api.FormSI:
			_ = whole(&i.I2) && first()
		case api.FormS:
			_ = whole(&unused) && first()
		case api.FormSS:
			_ = whole(&i.L1) && first() && second()
		case api.FormSS2:
			_ = half(&i.L1) && half(&i.L2) && first() && second()
		}
	}
}

// number returns the number whose bytes are b, which are at most eight.
func number(b []byte) uint64 {
	var word uint64
	for _, x := range b {
		word = word<<8 | uint64(x)
	}
	return word
}

// lastBytes returns the last n bytes of word.
func lastBytes(word uint64, n int) []byte {
	b := make([]byte, n)
	for at := n - 1; at >= 0; at-- {
		b[at] = byte(word)
		word >>= 8
	}
	return b
}
