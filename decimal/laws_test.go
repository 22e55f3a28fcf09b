package decimal_test

import (
	"bytes"
	"fmt"
	"math"
	"math/big"
	"slices"
	"strings"
	"testing"

	"jobshop/decimal"
)

// number returns the number of the field b, which is valid.
func number(t *testing.T, b []byte) *big.Int {
	t.Helper()
	w, code := numbersOf(b)
	if code != 0 {
		t.Fatalf("[% X] is not a valid field", b)
	}
	return w[0].value
}

// eachPair calls f with fields of some lengths.
func eachPair(f func(a, b []byte)) {
	for _, n := range []int{1, 2, 3, 8, 9, 15, 16} {
		for _, m := range []int{1, 2, 3, 7, 8, 16} {
			for _, a := range fieldsOf(n) {
				for _, b := range fieldsOf(m) {
					f(a, b)
				}
			}
		}
	}
}

// TestAddAndSub is the first law of P4.7.
func TestAddAndSub(t *testing.T) {
	checked := 0
	eachPair(func(a, b []byte) {
		sum, _, code := decimal.Add(a, b)
		if code != 0 {
			return
		}
		back, _, code := decimal.Sub(sum, b)
		if code != 0 {
			return
		}
		checked++
		if number(t, back).Cmp(number(t, a)) != 0 {
			t.Errorf("[% X] plus [% X] is [% X], and minus the same [% X]", a, b, sum, back)
		}
	})
	if checked < 1000 {
		t.Errorf("only %d pairs have a sum and a difference", checked)
	}
}

// TestAddExchanged is the second law of P4.7.
func TestAddExchanged(t *testing.T) {
	checked := [3]int{}
	eachPair(func(a, b []byte) {
		_, cc, code := decimal.Add(a, b)
		_, other, otherCode := decimal.Add(b, a)
		if code != 0 || otherCode != 0 {
			return
		}
		checked[cc]++
		if cc != other {
			t.Errorf("[% X] plus [% X] has the condition code %d, and exchanged %d", a, b, cc, other)
		}
	})
	if slices.Min(checked[:]) < 100 {
		t.Errorf("only %d sums are zero, negative, positive", checked)
	}
}

// TestQuotientAndRemainder is the third law of P4.7.
func TestQuotientAndRemainder(t *testing.T) {
	checked := 0
	eachPair(func(a, b []byte) {
		r, code := decimal.Divide(a, b)
		if code != 0 {
			return
		}
		checked++
		quotient, remainder := number(t, r[:len(a)-len(b)]), number(t, r[len(a)-len(b):])
		back := new(big.Int).Mul(quotient, number(t, b))
		if back.Add(back, remainder).Cmp(number(t, a)) != 0 || remainder.CmpAbs(number(t, b)) >= 0 {
			t.Errorf("[% X] divided by [% X] is [% X]", a, b, r)
		}
	})
	if checked < 1000 {
		t.Errorf("only %d pairs have a quotient", checked)
	}
}

// TestBinaryAndBack is the fourth law of P4.7.
func TestBinaryAndBack(t *testing.T) {
	words := []uint32{0, 1, 9, 10, math.MaxInt32, 1 << 31, 1<<31 + 1, math.MaxUint32}
	for i := range uint32(100000) {
		words = append(words, i*2654435761)
	}
	for _, v := range words {
		if back, code := decimal.ToBinary(decimal.FromBinary(v)); back != v || code != 0 {
			t.Errorf("ToBinary of FromBinary of %08X = %08X, %d", v, back, code)
		}
	}
}

// operation is a call with two fields of which it may use one only, and what it returns, as bytes.
type operation struct {
	name string
	call func(a, b []byte) []byte
}

func operations() []operation {
	return []operation{
		{"Add", func(a, b []byte) []byte { r, _, _ := decimal.Add(a, b); return r }},
		{"Sub", func(a, b []byte) []byte { r, _, _ := decimal.Sub(a, b); return r }},
		{"Zap", func(a, b []byte) []byte { r, _, _ := decimal.Zap(2, b); return r }},
		{"Zap of as many bytes", func(a, b []byte) []byte { r, _, _ := decimal.Zap(len(a), a); return r }},
		{"Compare", func(a, b []byte) []byte { return []byte(fmt.Sprint(decimal.Compare(a, b))) }},
		{"Multiply", func(a, b []byte) []byte { r, _ := decimal.Multiply(a, b); return r }},
		{"Divide", func(a, b []byte) []byte { r, _ := decimal.Divide(a, b); return r }},
		{"Shift by 0", func(a, b []byte) []byte { r, _, _ := decimal.Shift(a, 0, 0); return r }},
		{"Shift by 5", func(a, b []byte) []byte { r, _, _ := decimal.Shift(a, 5, 0); return r }},
		{"Shift by -1", func(a, b []byte) []byte { r, _, _ := decimal.Shift(a, -1, 9); return r }},
		{"ToBinary", func(a, b []byte) []byte { return []byte(fmt.Sprint(decimal.ToBinary(a))) }},
		{"FromBinary", func(a, b []byte) []byte { return decimal.FromBinary(123) }},
	}
}

// operands returns two fields that every operation takes.
func operands() (a, b []byte) {
	return hx("00 00 00 00 01 23 45 6D"), hx("00 7C")
}

// extended returns a copy of b that has more memory behind it, filled with the byte rest, and all of it.
func extended(b []byte, rest byte) (part, all []byte) {
	all = append(slices.Clone(b), bytes.Repeat([]byte{rest}, 20)...)
	return all[:len(b)], all
}

// TestArgumentsKept checks that functions neither change their arguments nor read or change what lies beyond their length (R3 of DOC.md).
func TestArgumentsKept(t *testing.T) {
	a, b := operands()
	for _, o := range operations() {
		want := o.call(slices.Clone(a), slices.Clone(b))
		for _, rest := range []byte{0x00, 0x5C, 0xFF} {
			left, allLeft := extended(a, rest)
			right, allRight := extended(b, rest)
			if r := o.call(left, right); !bytes.Equal(r, want) || len(r) == 0 {
				t.Errorf("%s = % X before bytes %X, want % X", o.name, r, rest, want)
			}
			_, sameLeft := extended(a, rest)
			_, sameRight := extended(b, rest)
			if !bytes.Equal(allLeft, sameLeft) || !bytes.Equal(allRight, sameRight) {
				t.Errorf("%s: the bytes are % X and % X then", o.name, allLeft, allRight)
			}
		}
	}
}

// TestNoBytes checks that a field without bytes is none, whatever lies beyond its length (R3).
func TestNoBytes(t *testing.T) {
	a, b := operands()
	none := strings.Fields("Add Sub Multiply Divide")
	for _, o := range operations() {
		if slices.Contains(none, o.name) {
			if r := o.call(a[:0], b); len(r) != 0 {
				t.Errorf("%s of no bytes = % X", o.name, r)
			}
			if r := o.call(a, b[:0]); len(r) != 0 {
				t.Errorf("%s by no bytes = % X", o.name, r)
			}
		}
	}
}

// spoil overwrites all memory of b, also that beyond its length.
func spoil(b []byte) {
	b = b[:cap(b)]
	for i := range b {
		b[i] ^= 0xFF
	}
}

// TestArgumentsNotRetained checks that a result does not change with the arguments, nor the arguments with the result (R3).
func TestArgumentsNotRetained(t *testing.T) {
	for _, o := range operations() {
		a, b := operands()
		r := o.call(a, b)
		before := slices.Clone(r)
		spoil(a)
		spoil(b)
		if !bytes.Equal(r, before) {
			t.Errorf("%s = % X, and % X after its arguments changed", o.name, before, r)
		}
		a, b = operands()
		spoil(o.call(a, b))
		sameA, sameB := operands()
		if !bytes.Equal(a, sameA) || !bytes.Equal(b, sameB) {
			t.Errorf("%s: the arguments are % X and % X after the result changed", o.name, a, b)
		}
	}
}

// TestSameArgument checks that the two arguments may be the same memory, or overlap (R3, R4).
func TestSameArgument(t *testing.T) {
	for _, p := range pairings() {
		b := hx("00 00 00 00 1C")
		same := slices.Clone(b)
		got := []outcome{p.call(b, b), p.call(b, b[3:]), p.call(b[3:], b), p.call(b[2:], b[4:])}
		want := []outcome{p.want(same, same), p.want(same, same[3:]), p.want(same[3:], same), p.want(same[2:], same[4:])}
		if !slices.Equal(got, want) || !bytes.Equal(b, same) {
			t.Errorf("%s of parts of [% X] = %v, want %v", p.name, b, got, want)
		}
	}
}

// TestResultsAreNew checks that results share no memory with each other or with the package, and that calls do not depend on earlier ones (R3, R4).
func TestResultsAreNew(t *testing.T) {
	a, b := operands()
	for _, o := range operations() {
		for _, other := range operations() {
			kept := o.call(a, b)
			before := slices.Clone(kept)
			spoil(other.call(a, b))
			if again := o.call(a, b); !bytes.Equal(kept, before) || !bytes.Equal(again, before) || len(before) == 0 {
				t.Errorf("%s = % X, then % X, and % X after the result of %s changed", o.name, before, kept, again, other.name)
			}
		}
	}
}
