package decops_test

import (
	"fmt"
	"strings"
	"testing"

	"jobshop/decops"
)

// TestToBinary has CVB by hand, among it the greatest and the least number that fit, and those beside them. A number that does not fit leaves the register (Terms: the order of codes).
func TestToBinary(t *testing.T) {
	c := newSetting(t, 0)
	c.regs[5] = 0xABCDEF01
	for _, r := range []struct {
		text string
		want uint32
		code int
	}{
		{"00 00 00 00 00 00 00 0C", 0, 0}, {"00 00 00 00 00 00 00 0D", 0, 0}, {"00 00 00 00 00 00 00 1C", 1, 0}, {"00 00 00 00 00 00 00 1D", 0xFFFFFFFF, 0},
		{"00 00 00 00 00 00 12 3D", 1<<32 - 123, 0}, {"00 00 00 00 00 00 25 5A", 255, 0}, {"00 00 00 00 00 00 25 6B", 1<<32 - 256, 0}, {"00 00 00 00 01 67 77 21", 0, 7},
		{"00 00 00 21 47 48 36 4E", 214748364, 0}, {"00 00 02 14 74 83 64 6C", 1<<31 - 2, 0}, {"00 00 02 14 74 83 64 7C", 1<<31 - 1, 0}, {"00 00 02 14 74 83 64 8C", 0, 9}, {"00 00 02 14 74 83 64 9C", 0, 9},
		{"00 00 02 14 74 83 64 7D", 1<<31 + 1, 0}, {"00 00 02 14 74 83 64 8D", 1 << 31, 0}, {"00 00 02 14 74 83 64 9D", 0, 9}, {"00 00 02 14 74 83 65 0D", 0, 9},
		{"00 00 04 29 49 67 29 5C", 0, 9}, {"00 00 04 29 49 67 29 6C", 0, 9}, {"00 00 04 29 49 67 29 7C", 0, 9}, {"99 99 99 99 99 99 99 9C", 0, 9}, {"99 99 99 99 99 99 99 9D", 0, 9}, {"10 00 00 00 00 00 00 0C", 0, 9},
		{"00 00 00 00 00 00 00 19", 0, 7}, {"A0 00 00 00 00 00 00 1C", 0, 7}, {"99 99 99 99 99 99 99 99", 0, 7}, {"00 00 00 00 00 00 00 00", 0, 7},
	} {
		c.set(512, r.text)
		got := c.exec(c.conversion("CVB", 512))
		want := r.want
		if r.code != 0 {
			want = 0xABCDEF01
		}
		check(t, got.regs[5] == want && got.code == r.code && got.psw == c.psw, "CVB of", r.text, got.regs[5], got.code)
	}
}

// words are words at the ends of all sorts of ranges.
func words() []uint32 {
	all := []uint32{
		0, 1, 2, 9, 10, 11, 99, 100, 0x7F, 0x80, 0xFF, 0x100, 0x7FFF, 0x8000, 0xFFFF, 0x10000, 0xFFFFFF, 0x1000000, 0x12345678, 999999999, 1000000000, 1234567890, 2000000000,
		0x3FFFFFFF, 0x40000000, 0x55555555, 0x7FFFFFFE, 0x7FFFFFFF, 0x80000000, 0x80000001, 0xAAAAAAAA, 0xC0000000, 0xFFFF7FFF, 0xFFFF8000, 0xFFFFFFF6, 0xFFFFFFF7, 0xFFFFFFFE, 0xFFFFFFFF,
	}
	next := numbersFrom(12)
	for range 30 {
		all = append(all, uint32(next(1<<31)*2+next(2)))
	}
	return all
}

// TestToDecimal has CVD of words, by the signed number of each.
func TestToDecimal(t *testing.T) {
	c := newSetting(t, 0)
	for _, v := range words() {
		c.regs[5] = v
		got := c.exec(c.conversion("CVD", 512))
		text, sign := fmt.Sprint(int32(v)), "C"
		if strings.HasPrefix(text, "-") {
			text, sign = text[1:], "D"
		}
		want := fmt.Sprintf("% X", bytesOf(right(text, 15)+sign))
		check(t, got.text(512, 8) == want && got.code == 0 && got.regs == c.regs && got.psw == c.psw, "CVD of", v, got.text(512, 8))
	}
}

// TestEveryRegister has each register as R1, also where it is the base.
func TestEveryRegister(t *testing.T) {
	c := newSetting(t, 0)
	c.set(512, "00 00 00 00 12 34 56 7D")
	for r1 := range 16 {
		got := c.exec(convert("CVB", r1, 0, 0, 512))
		check(t, got.regs[r1] == 1<<32-1234567, "CVB into the register", r1, got.regs)
		got = c.exec(convert("CVD", r1, 0, 0, 512))
		check(t, got.regs == c.regs, "registers after CVD of", r1, got.regs)
		c.regs[r1] = 0xFF000000 + 12
		c.exec(convert("CVB", r1, 0, r1, 500))
		c.exec(convert("CVD", r1, 0, r1, 500))
		c.exec(convert("CVB", r1, r1, 0, 500))
		c.exec(convert("CVD", r1, r1, r1, 488))
	}
}

// TestMovesByHand has PACK, UNPK and MVO by hand; they leave the condition code.
func TestMovesByHand(t *testing.T) {
	checkCalculations(t, []calculation{
		{"PACK", "77 77 77", "F1 F2 C3", "00 12 3C", 1, 0},
		{"PACK", "77 77", "F1 F2 C3", "12 3C", 1, 0},
		{"PACK", "77", "F1 F2 C3", "3C", 1, 0},
		{"PACK", "77 77", "5A", "00 A5", 1, 0},
		{"PACK", "77 77 77", "AB CD EF 12", "0B DF 21", 1, 0},
		{"PACK", "77 77", "01 02 03 04 05 06 07 08 09 0A 0B 0C 0D 0E 0F 10", "EF 01", 1, 0},
		{"UNPK", "77 77 77 77", "12 3C", "F0 F1 F2 C3", 1, 0},
		{"UNPK", "77 77", "12 3C", "F2 C3", 1, 0},
		{"UNPK", "77", "12 3C", "C3", 1, 0},
		{"UNPK", "77 77 77", "5A", "F0 F0 A5", 1, 0},
		{"UNPK", "77 77 77 77 77", "AB CD EF", "FA FB FC FD FE", 1, 0},
		{"MVO", "77 88 9C", "12 34", "01 23 4C", 1, 0},
		{"MVO", "9C", "12 34", "4C", 1, 0},
		{"MVO", "77 8A", "12 34 56", "45 6A", 1, 0},
		{"MVO", "77 88 99 5B", "AB", "00 00 0A BB", 1, 0},
		{"MVO", "FF", "FF", "FF", 1, 0},
	})
}

// TestMoveLengths has PACK, UNPK and MVO with operands of every length, with all sorts of bytes.
func TestMoveLengths(t *testing.T) {
	c := newSetting(t, 0)
	next := numbersFrom(13)
	for n1 := 1; n1 <= 16; n1++ {
		for n2 := 1; n2 <= 16; n2++ {
			for round := range 8 {
				c.psw.CC = round % 4
				for k := range 16 {
					c.fill(1024+k, byte(next(256)))
					c.fill(512+k, byte(next(256)))
				}
				for _, name := range []string{"PACK", "UNPK", "MVO"} {
					r := c.exec(c.fields(name, n1, 1024, n2, 512))
					check(t, r.code == 0 && r.psw == c.psw && r.regs == c.regs, name, n1, n2, r.code, r.psw)
				}
			}
		}
	}
}

// TestConversions is the first sentence of P10.4.
func TestConversions(t *testing.T) {
	c := newSetting(t, 6)
	c.psw.Key = 3
	for _, v := range words() {
		c.regs[5] = v
		_, _, code := decops.Exec(convert("CVD", 5, 0, 0, 800), c.regs, c.psw, c.s)
		check(t, code == 0, "CVD of", v, code)
		regs := c.regs
		regs[5] = ^v
		regs, _, code = decops.Exec(convert("CVB", 5, 0, 0, 800), regs, c.psw, c.s)
		check(t, code == 0 && regs == c.regs, "CVB of", v, regs[5], code)
	}
}

// TestSumsOfRegisters is the second sentence of P10.4, with sums beyond both ends.
func TestSumsOfRegisters(t *testing.T) {
	c := newSetting(t, 0)
	count := map[int]int{}
	for _, v := range words() {
		for _, w := range words() {
			c.regs[2], c.regs[3], c.regs[4] = v, w, 0x77777777
			for k, i := range []int{800, 808} {
				_, _, code := decops.Exec(convert("CVD", 2+k, 0, 0, i), c.regs, c.psw, c.s)
				check(t, code == 0, "CVD of", v, w)
			}
			regs, p, code := decops.Exec(c.fields("AP", 8, 800, 8, 808), c.regs, c.psw, c.s)
			sum := int64(int32(v)) + int64(int32(w))
			cc := map[bool]int{sum > 0: 2, sum < 0: 1}[true]
			check(t, code == 0 && regs == c.regs && p.CC == cc, "AP of", v, w, code, p.CC)
			regs, _, code = decops.Exec(convert("CVB", 4, 0, 0, 800), c.regs, c.psw, c.s)
			count[code]++
			if sum >= -1<<31 && sum <= 1<<31-1 {
				check(t, code == 0 && int64(int32(regs[4])) == sum, "CVB of the sum of", v, w, regs[4], code)
			} else {
				check(t, code == 9 && regs == c.regs, "CVB of the sum of", v, w, regs[4], code)
			}
		}
	}
	check(t, count[0] > 1000 && count[9] > 500, "sums that fit and that do not", count)
}

// TestUnpackAndPack is P10.5.
func TestUnpackAndPack(t *testing.T) {
	c := newSetting(t, 0)
	next := numbersFrom(14)
	for n := 1; n <= 8; n++ {
		for range 100 {
			field := numberOf(next, n)
			c.set(700, field)
			_, p, code := decops.Exec(c.fields("UNPK", 2*n-1, 900, n, 700), c.regs, c.psw, c.s)
			check(t, code == 0 && p == c.psw, "UNPK of", field, code)
			zoned := c.s.Bytes(900, 2*n-1)
			for k, b := range zoned[:2*n-2] {
				check(t, b == 0xF0+field[k]-'0', "zoned digit", k, "of", field, b)
			}
			_, p, code = decops.Exec(c.fields("PACK", n, 1100, 2*n-1, 900), c.regs, c.psw, c.s)
			check(t, code == 0 && p == c.psw, "PACK of", zoned, code)
			check(t, fmt.Sprintf("%X", c.s.Bytes(1100, n)) == field, "UNPK and PACK of", field, c.s.Bytes(1100, n))
		}
	}
}
