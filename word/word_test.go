package word_test

import (
	"bytes"
	"math"
	"math/big"
	"testing"

	"jobshop/word"
)

// words are the smallest and largest numbers, their neighbours, and words with mixed bits.
func words() []uint32 {
	return []uint32{
		0, 1, 2, 3, 5, 7, 10, 0x7F, 0x80, 0xFF, 0x7FFF, 0x8000, 0xFFFF, 0x10000,
		0x12345678, 0x3FFFFFFF, 0x40000000, 0x55555555, 0x7FFFFFFE, 0x7FFFFFFF,
		0x80000000, 0x80000001, 0x9ABCDEF0, 0xAAAAAAAA, 0xBFFFFFFF, 0xC0000000,
		0xFFFF7FFF, 0xFFFF8000, 0xFFFFFFF9, 0xFFFFFFFD, 0xFFFFFFFE, 0xFFFFFFFF,
	}
}

// shifts are numbers of places: all of a full turn in both directions, and those at the ends of an int.
func shifts() []int {
	ns := []int{math.MinInt, math.MinInt + 1, math.MaxInt - 1, math.MaxInt, 1 << 40, 1<<40 + 33}
	for n := -70; n <= 135; n++ {
		ns = append(ns, n)
	}
	return ns
}

func signed(v uint32) *big.Int { return big.NewInt(int64(int32(v))) }

func unsigned(v uint32) *big.Int { return new(big.Int).SetUint64(uint64(v)) }

func double(hi, lo uint32) uint64 { return uint64(hi)<<32 + uint64(lo) }

// low returns n modulo 2^bits.
func low(n *big.Int, bits uint) uint64 {
	m := new(big.Int).Lsh(big.NewInt(1), bits)
	return m.Mod(n, m).Uint64()
}

// isSigned reports whether n is a signed number of so many bits.
func isSigned(n *big.Int, bits uint) bool {
	limit := new(big.Int).Lsh(big.NewInt(1), bits-1)
	return n.Cmp(limit) < 0 && n.Cmp(new(big.Int).Neg(limit)) >= 0
}

// code returns the condition code of a result.
func code(n *big.Int) int { return [3]int{1, 0, 2}[n.Sign()+1] }

// turn returns n modulo 64.
func turn(n int) uint { return uint((n%64 + 64) % 64) }

// narrow returns what an operation returns whose exact result is n.
func narrow(n *big.Int) (uint32, int, bool) {
	r := uint32(low(n, 32))
	if !isSigned(n, 32) {
		return r, 3, true
	}
	return r, code(n), false
}

func wrongPlaces(n int) []int {
	return []int{-1, -2, -4, n, n + 1, n + 5, math.MinInt, math.MinInt + 1, math.MaxInt, math.MaxInt - 1, math.MaxInt - 3}
}

func TestHalf(t *testing.T) {
	b := []byte{0x00, 0xFF, 0xFE, 0x00, 0x7F, 0xFF, 0x80, 0x00}
	want := []uint32{0x00FF, 0xFFFFFFFE, 0xFFFFFE00, 0x7F, 0x7FFF, 0xFFFFFF80, 0xFFFF8000}
	for at, w := range want {
		if v, ok := word.Half(b, at); v != w || !ok {
			t.Errorf("Half at %d = %x, %v, want %x", at, v, ok, w)
		}
	}
	for _, at := range wrongPlaces(len(b) - 1) {
		if v, ok := word.Half(b, at); v != 0 || ok {
			t.Errorf("Half at %d = %x, %v", at, v, ok)
		}
	}
	for _, s := range [][]byte{nil, {}, {9}, b[:1], b[:0]} {
		if v, ok := word.Half(s, 0); v != 0 || ok {
			t.Errorf("Half of %x = %x, %v", s, v, ok)
		}
	}
}

func TestFull(t *testing.T) {
	b := []byte{1, 2, 3, 4, 5, 0xFF}
	want := []uint32{0x01020304, 0x02030405, 0x030405FF}
	for at, w := range want {
		if v, ok := word.Full(b, at); v != w || !ok {
			t.Errorf("Full at %d = %x, %v, want %x", at, v, ok, w)
		}
	}
	for _, at := range wrongPlaces(len(b) - 3) {
		if v, ok := word.Full(b, at); v != 0 || ok {
			t.Errorf("Full at %d = %x, %v", at, v, ok)
		}
	}
	for _, s := range [][]byte{nil, {}, {1, 2, 3}, b[:3], b[:0]} {
		if v, ok := word.Full(s, 0); v != 0 || ok {
			t.Errorf("Full of %x = %x, %v", s, v, ok)
		}
	}
}

type putter struct {
	name string
	size int
	call func([]byte, int, uint32) ([]byte, bool)
}

func putters() []putter {
	return []putter{{"PutHalf", 2, word.PutHalf}, {"PutFull", 4, word.PutFull}}
}

func TestPut(t *testing.T) {
	b := []byte{1, 2, 3, 4, 5, 6}
	field := []byte{0x9A, 0xBC, 0xDE, 0xF0}
	for _, p := range putters() {
		for at := 0; at <= len(b)-p.size; at++ {
			want := bytes.Clone(b)
			copy(want[at:], field[4-p.size:])
			if r, ok := p.call(b, at, 0x9ABCDEF0); !bytes.Equal(r, want) || !ok {
				t.Errorf("%s at %d = %x, %v, want %x", p.name, at, r, ok, want)
			}
		}
		for _, at := range wrongPlaces(len(b) - p.size + 1) {
			if r, ok := p.call(b, at, 1); r != nil || ok {
				t.Errorf("%s at %d = %x, %v", p.name, at, r, ok)
			}
		}
		if r, ok := p.call(b[:p.size-1], 0, 1); r != nil || ok {
			t.Errorf("%s into a short slice = %x, %v", p.name, r, ok)
		}
		if r, ok := p.call(nil, 0, 1); r != nil || ok {
			t.Errorf("%s into nil = %x, %v", p.name, r, ok)
		}
	}
}

// TestPutCopies checks that neither the argument nor what lies behind its length is changed, and that the result shares no memory with it.
func TestPutCopies(t *testing.T) {
	for _, p := range putters() {
		whole := []byte{1, 2, 3, 4, 5, 6, 7, 8}
		r, ok := p.call(whole[:6], 6-p.size, 0xFFFFFFFF)
		if !ok || len(r) != 6 {
			t.Fatalf("%s = %x, %v", p.name, r, ok)
		}
		r[0] = 99
		_ = append(r, 99)
		if !bytes.Equal(whole, []byte{1, 2, 3, 4, 5, 6, 7, 8}) {
			t.Errorf("%s changed its argument to %x", p.name, whole)
		}
	}
}

// TestFieldsKeepTheRest is P1.7.
func TestFieldsKeepTheRest(t *testing.T) {
	b := []byte{11, 22, 33, 44, 55, 66, 77, 88}
	for _, v := range words() {
		for _, p := range putters() {
			for at := 0; at <= len(b)-p.size; at++ {
				r, ok := p.call(b, at, v)
				if !ok || len(r) != len(b) || !bytes.Equal(r[:at], b[:at]) || !bytes.Equal(r[at+p.size:], b[at+p.size:]) {
					t.Fatalf("%s at %d with %x = %x, %v", p.name, at, v, r, ok)
				}
				got, ok := word.Full(r, at)
				want := v
				if p.size == 2 {
					got, ok = word.Half(r, at)
					want = uint32(int32(v<<16) >> 16)
				}
				if got != want || !ok {
					t.Errorf("the field that %s put at %d with %x is %x, %v", p.name, at, v, got, ok)
				}
			}
		}
	}
}

func TestSums(t *testing.T) {
	for _, a := range words() {
		for _, b := range words() {
			sum, cc, over := narrow(new(big.Int).Add(signed(a), signed(b)))
			if s, c, o := word.Add(a, b); s != sum || c != cc || o != over {
				t.Errorf("Add of %x and %x = %x, %d, %v, want %x, %d, %v", a, b, s, c, o, sum, cc, over)
			}
			diff, cc, over := narrow(new(big.Int).Sub(signed(a), signed(b)))
			if d, c, o := word.Sub(a, b); d != diff || c != cc || o != over {
				t.Errorf("Sub of %x and %x = %x, %d, %v, want %x, %d, %v", a, b, d, c, o, diff, cc, over)
			}
		}
		neg, cc, over := narrow(new(big.Int).Neg(signed(a)))
		if n, c, o := word.Complement(a); n != neg || c != cc || o != over {
			t.Errorf("Complement of %x = %x, %d, %v, want %x, %d, %v", a, n, c, o, neg, cc, over)
		}
	}
}

func TestLogicalSums(t *testing.T) {
	logical := func(n *big.Int, two bool) (uint32, int) {
		r, cc := uint32(low(n, 32)), 0
		if two {
			cc += 2
		}
		if r != 0 {
			cc++
		}
		return r, cc
	}
	for _, a := range words() {
		for _, b := range words() {
			exact := new(big.Int).Add(unsigned(a), unsigned(b))
			sum, cc := logical(exact, exact.BitLen() > 32)
			if s, c := word.AddLogical(a, b); s != sum || c != cc {
				t.Errorf("AddLogical of %x and %x = %x, %d, want %x, %d", a, b, s, c, sum, cc)
			}
			exact.Sub(unsigned(a), unsigned(b))
			diff, cc := logical(exact, exact.Sign() >= 0)
			if d, c := word.SubLogical(a, b); d != diff || c != cc {
				t.Errorf("SubLogical of %x and %x = %x, %d, want %x, %d", a, b, d, c, diff, cc)
			}
		}
	}
}

// TestInverse is P1.8.
func TestInverse(t *testing.T) {
	for _, a := range words() {
		for _, b := range words() {
			sum, _, _ := word.Add(a, b)
			if d, _, _ := word.Sub(sum, b); d != a {
				t.Errorf("Sub of the sum of %x and %x and the latter = %x", a, b, d)
			}
			diff, _, _ := word.Sub(a, b)
			if s, _ := word.AddLogical(a, -b); s != diff {
				t.Errorf("AddLogical of %x and minus %x = %x, Sub %x", a, b, s, diff)
			}
			if s, _ := word.AddLogical(a, b); s != sum {
				t.Errorf("AddLogical of %x and %x = %x, Add %x", a, b, s, sum)
			}
			if d, _ := word.SubLogical(a, b); d != diff {
				t.Errorf("SubLogical of %x and %x = %x, Sub %x", a, b, d, diff)
			}
		}
	}
}

func TestComparisons(t *testing.T) {
	order := func(n int) int { return [3]int{1, 0, 2}[n+1] }
	for _, a := range words() {
		for _, b := range words() {
			if c, w := word.Compare(a, b), order(signed(a).Cmp(signed(b))); c != w {
				t.Errorf("Compare of %x and %x = %d, want %d", a, b, c, w)
			}
			if c, w := word.CompareLogical(a, b), order(unsigned(a).Cmp(unsigned(b))); c != w {
				t.Errorf("CompareLogical of %x and %x = %d, want %d", a, b, c, w)
			}
		}
		if c, w := word.Test(a), code(signed(a)); c != w {
			t.Errorf("Test of %x = %d, want %d", a, c, w)
		}
	}
}

func TestMul(t *testing.T) {
	for _, a := range words() {
		for _, b := range words() {
			want := low(new(big.Int).Mul(signed(a), signed(b)), 64)
			if hi, lo := word.Mul(a, b); double(hi, lo) != want {
				t.Errorf("Mul of %x and %x = %x %x, want %x", a, b, hi, lo, want)
			}
		}
	}
}

func TestDiv(t *testing.T) {
	for _, hi := range words() {
		for _, lo := range words() {
			for _, d := range words() {
				checkDiv(t, hi, lo, d)
			}
		}
	}
}

func checkDiv(t *testing.T, hi, lo, d uint32) {
	t.Helper()
	var rem, quo uint32
	ok := false
	if d != 0 {
		n := big.NewInt(int64(double(hi, lo)))
		q, r := new(big.Int).QuoRem(n, signed(d), new(big.Int))
		if isSigned(q, 32) {
			rem, quo, ok = uint32(low(r, 32)), uint32(low(q, 32)), true
		}
	}
	if r, q, o := word.Div(hi, lo, d); r != rem || q != quo || o != ok {
		t.Errorf("Div of %x %x by %x = %x, %x, %v, want %x, %x, %v", hi, lo, d, r, q, o, rem, quo, ok)
	}
}

func TestDivFails(t *testing.T) {
	rows := []struct{ hi, lo, d uint32 }{
		{0, 0, 0}, {0, 1, 0}, {0xFFFFFFFF, 0xFFFFFFFF, 0}, // by zero
		{0, 0x80000000, 1},                   // the quotient would be 2^31
		{0xFFFFFFFF, 0x7FFFFFFF, 1},          // -2^31 - 1
		{0xFFFFFFFF, 0x80000000, ^uint32(0)}, // 2^31 again
		{0x80000000, 0, 0xFFFFFFFF},          // 2^63, which is no signed double word
		{0x80000000, 0, 1}, {0x7FFFFFFF, 0xFFFFFFFF, 1}, {1, 0, 2},
	}
	for _, c := range rows {
		if r, q, ok := word.Div(c.hi, c.lo, c.d); r != 0 || q != 0 || ok {
			t.Errorf("Div of %x %x by %x = %x, %x, %v", c.hi, c.lo, c.d, r, q, ok)
		}
	}
}

// TestDivisionLaws is P1.9: Div takes apart what product and remainder put together.
func TestDivisionLaws(t *testing.T) {
	for _, quo := range words() {
		for _, d := range words() {
			for _, rem := range words() {
				q, m, r := signed(quo), signed(d), signed(rem)
				product := new(big.Int).Mul(q, m)
				if r.CmpAbs(m) >= 0 || r.Sign()*product.Sign() < 0 {
					continue
				}
				n := low(product.Add(product, r), 64)
				hi, lo := uint32(n>>32), uint32(n)
				if gr, gq, ok := word.Div(hi, lo, d); gr != rem || gq != quo || !ok {
					t.Errorf("Div of %x %x by %x = %x, %x, %v, want %x, %x", hi, lo, d, gr, gq, ok, rem, quo)
				}
			}
		}
	}
}

// left returns the result of a left shift of v, a signed number of so many bits, that keeps the sign bit, and whether it overflows.
func left(v *big.Int, n, bits uint) (uint64, bool) {
	exact := new(big.Int).Lsh(v, n)
	r := low(exact, bits-1)
	if v.Sign() < 0 {
		r |= 1 << (bits - 1)
	}
	return r, !isSigned(exact, bits)
}

func TestShifts(t *testing.T) {
	for _, v := range words() {
		for _, n := range shifts() {
			w, over := left(signed(v), turn(n), 32)
			cc := code(signed(uint32(w)))
			if over {
				cc = 3
			}
			if r, c, o := word.ShiftLeft(v, n); r != uint32(w) || c != cc || o != over {
				t.Errorf("ShiftLeft of %x by %d = %x, %d, %v, want %x, %d, %v", v, n, r, c, o, w, cc, over)
			}
			right := new(big.Int).Rsh(signed(v), turn(n))
			if r, c := word.ShiftRight(v, n); r != uint32(low(right, 32)) || c != code(right) {
				t.Errorf("ShiftRight of %x by %d = %x, %d, want %x, %d", v, n, r, c, right, code(right))
			}
			up := uint32(low(new(big.Int).Lsh(unsigned(v), turn(n)), 32))
			if r := word.ShiftLogical(v, n, true); r != up {
				t.Errorf("ShiftLogical of %x by %d to the left = %x, want %x", v, n, r, up)
			}
			down := uint32(new(big.Int).Rsh(unsigned(v), turn(n)).Uint64())
			if r := word.ShiftLogical(v, n, false); r != down {
				t.Errorf("ShiftLogical of %x by %d to the right = %x, want %x", v, n, r, down)
			}
		}
	}
}

func TestDoubleShifts(t *testing.T) {
	for _, hi := range words() {
		for _, lo := range words() {
			for _, n := range shifts() {
				checkArithmeticDouble(t, hi, lo, n)
				checkLogicalDouble(t, hi, lo, n)
			}
		}
	}
}

func checkArithmeticDouble(t *testing.T, hi, lo uint32, n int) {
	t.Helper()
	v := big.NewInt(int64(double(hi, lo)))
	w, over := left(v, turn(n), 64)
	cc := code(big.NewInt(int64(w)))
	if over {
		cc = 3
	}
	if rhi, rlo, c, o := word.ShiftLeftDouble(hi, lo, n); double(rhi, rlo) != w || c != cc || o != over {
		t.Errorf("ShiftLeftDouble of %x %x by %d = %x %x, %d, %v, want %x, %d, %v", hi, lo, n, rhi, rlo, c, o, w, cc, over)
	}
	right := new(big.Int).Rsh(v, turn(n))
	if rhi, rlo, c := word.ShiftRightDouble(hi, lo, n); double(rhi, rlo) != low(right, 64) || c != code(right) {
		t.Errorf("ShiftRightDouble of %x %x by %d = %x %x, %d, want %x, %d", hi, lo, n, rhi, rlo, c, right, code(right))
	}
}

func checkLogicalDouble(t *testing.T, hi, lo uint32, n int) {
	t.Helper()
	v := new(big.Int).SetUint64(double(hi, lo))
	up := low(new(big.Int).Lsh(v, turn(n)), 64)
	if rhi, rlo := word.ShiftLogicalDouble(hi, lo, n, true); double(rhi, rlo) != up {
		t.Errorf("ShiftLogicalDouble of %x %x by %d to the left = %x %x, want %x", hi, lo, n, rhi, rlo, up)
	}
	down := new(big.Int).Rsh(v, turn(n)).Uint64()
	if rhi, rlo := word.ShiftLogicalDouble(hi, lo, n, false); double(rhi, rlo) != down {
		t.Errorf("ShiftLogicalDouble of %x %x by %d to the right = %x %x, want %x", hi, lo, n, rhi, rlo, down)
	}
}

// TestShiftsInParts is P1.10 for words.
func TestShiftsInParts(t *testing.T) {
	for _, v := range words() {
		for n := 0; n <= 63; n++ {
			for m := 0; n+m <= 63; m++ {
				whole, _, over := word.ShiftLeft(v, n+m)
				first, _, over1 := word.ShiftLeft(v, n)
				second, _, over2 := word.ShiftLeft(first, m)
				if whole != second || over != (over1 || over2) {
					t.Errorf("ShiftLeft of %x by %d and %d", v, n, m)
				}
				whole, _ = word.ShiftRight(v, n+m)
				first, _ = word.ShiftRight(v, n)
				if second, _ = word.ShiftRight(first, m); whole != second {
					t.Errorf("ShiftRight of %x by %d and %d", v, n, m)
				}
				for _, left := range []bool{false, true} {
					if word.ShiftLogical(v, n+m, left) != word.ShiftLogical(word.ShiftLogical(v, n, left), m, left) {
						t.Errorf("ShiftLogical of %x by %d and %d, %v", v, n, m, left)
					}
				}
			}
		}
	}
}

// TestDoubleShiftsInParts is P1.10 for double words.
func TestDoubleShiftsInParts(t *testing.T) {
	for _, hi := range words() {
		for _, lo := range []uint32{0, 1, 0x7FFFFFFF, 0x80000000, 0xFFFFFFFF} {
			for n := 0; n <= 63; n++ {
				for m := 0; n+m <= 63; m++ {
					checkParts(t, hi, lo, n, m)
				}
			}
		}
	}
}

func checkParts(t *testing.T, hi, lo uint32, n, m int) {
	t.Helper()
	whi, wlo, _, over := word.ShiftLeftDouble(hi, lo, n+m)
	h, l, _, over1 := word.ShiftLeftDouble(hi, lo, n)
	h, l, _, over2 := word.ShiftLeftDouble(h, l, m)
	if whi != h || wlo != l || over != (over1 || over2) {
		t.Errorf("ShiftLeftDouble of %x %x by %d and %d", hi, lo, n, m)
	}
	whi, wlo, _ = word.ShiftRightDouble(hi, lo, n+m)
	h, l, _ = word.ShiftRightDouble(hi, lo, n)
	if h, l, _ = word.ShiftRightDouble(h, l, m); whi != h || wlo != l {
		t.Errorf("ShiftRightDouble of %x %x by %d and %d", hi, lo, n, m)
	}
	for _, left := range []bool{false, true} {
		whi, wlo = word.ShiftLogicalDouble(hi, lo, n+m, left)
		h, l = word.ShiftLogicalDouble(hi, lo, n, left)
		if h, l = word.ShiftLogicalDouble(h, l, m, left); whi != h || wlo != l {
			t.Errorf("ShiftLogicalDouble of %x %x by %d and %d, %v", hi, lo, n, m, left)
		}
	}
}
