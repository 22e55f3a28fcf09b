package general_test

import (
	"math/big"
	"testing"

	"jobshop/api"
)

// masks are program masks with and without the bit of the fixed-point overflow.
func masks() []int { return []int{0, 8, 7, 15} }

// TestWords gives every instruction that has an operand all pairs of edge words, in registers and in storage.
func TestWords(t *testing.T) {
	c := newSetting(t, 0)
	for k, r := range edges() {
		for j, v := range edges() {
			c.psw.CC, c.psw.Prog = (k+j)%4, masks()[(k*3+j)%4]
			c.regs[4], c.regs[5], c.regs[9] = r, ^r, v
			c.fillWord(1024, v)
			c.fillWord(1028, v<<16|v>>16)
			for _, in := range known {
				switch {
				case effectOf[in.name] == "":
				case in.form == api.FormRR:
					c.exec(rr(in.name, 4, 9))
				default:
					c.exec(rx(in.name, 4, 0, 0, 1024))
					c.exec(rx(in.name, 4, 0, 0, 1028))
				}
			}
		}
	}
}

// TestSameRegister has R1 and R2 the same register, R2 within the pair, register 0 and register 15.
func TestSameRegister(t *testing.T) {
	c := newSetting(t, 0)
	for _, v := range edges() {
		for _, other := range []uint32{0, 1, 0xFFFFFFFF, 0x80000000} {
			for _, name := range namesIn(api.FormRR) {
				for _, r := range [][2]int{{6, 6}, {6, 7}, {7, 6}, {0, 0}, {0, 1}, {15, 15}, {15, 0}, {14, 15}, {14, 0}, {0, 15}} {
					c.regs[r[0]], c.regs[r[0]^1] = v, other
					c.exec(rr(name, r[0], r[1]))
				}
			}
		}
	}
}

// TestEveryPair has each register as R1 of each instruction that works on a pair: register 15 has no pair.
func TestEveryPair(t *testing.T) {
	c := newSetting(t, 0)
	c.fillWord(1024, 0x7FFFFFFF)
	regs := c.regs
	for r1 := range 16 {
		c.regs = regs
		c.regs[r1] = 0x1234
		want := map[bool]int{true: 6}[r1%2 == 1]
		for _, i := range []api.Ins{
			rr("MR", r1, 0), rr("MR", r1, 9), rx("M", r1, 0, 0, 1024), rr("DR", r1, (r1+5)%16), rx("D", r1, 0, 0, 1024),
			rs("SLDA", r1, 0, 0, 3), rs("SRDA", r1, 0, 0, 3), rs("SLDL", r1, 0, 0, 3), rs("SRDL", r1, 0, 0, 3), rs("SRDL", r1, 1, 0, 0),
		} {
			check(t, c.exec(i).code == want, "pair", named[i.Op], r1)
		}
		for _, i := range []api.Ins{rs("SLA", r1, 0, 0, 3), rs("SRA", r1, 0, 0, 3), rs("SLL", r1, 0, 0, 3), rs("SRL", r1, 0, 0, 3), rx("MH", r1, 0, 0, 1024)} {
			code := c.exec(i).code
			check(t, code == 0, "no pair", named[i.Op], r1, code)
		}
	}
	check(t, c.exec(rr("MR", 15, 0)).code == 6 && c.exec(rr("DR", 15, 0)).code == 6, "R1 15 and R2 0")
}

// TestOverflow has results that overflow, with and without the bit of the program mask: the results stand.
func TestOverflow(t *testing.T) {
	c := newSetting(t, 0)
	const most, least = 0x7FFFFFFF, 0x80000000
	for _, r := range []struct {
		name string
		r, v uint32
		want uint32
	}{
		{"AR", most, 1, least}, {"AR", least, 0xFFFFFFFF, most}, {"SR", least, 1, most}, {"SR", most, 0xFFFFFFFF, least}, {"SR", 0, least, least},
		{"LCR", 5, least, least}, {"LPR", 5, least, least}, {"AR", least, least, 0},
	} {
		for prog := range 16 {
			c.regs[4], c.regs[9], c.psw.Prog = r.r, r.v, prog
			got := c.exec(rr(r.name, 4, 9))
			check(t, got.regs[4] == r.want && got.psw.CC == 3 && got.psw.Prog == prog, "overflow", r, got.regs[4], got.psw)
			check(t, got.code == map[bool]int{true: 8}[prog >= 8], "overflow", r, prog, got.code)
		}
	}
}

// TestOverflowInStorage has the same with operands in storage, and with halfwords.
func TestOverflowInStorage(t *testing.T) {
	c := newSetting(t, 0)
	c.psw.Prog = 8
	c.fillWord(1024, 0x00018000)
	for _, r := range []struct {
		name string
		a    int
		r    uint32
		want uint32
	}{
		{"A", 1024, 0x7FFFFFFF, 0x80017FFF}, {"S", 1024, 0x80000000, 0x7FFE8000},
		{"AH", 1024, 0x7FFFFFFF, 0x80000000}, {"AH", 1026, 0x80000000, 0x7FFF8000},
		{"SH", 1024, 0x80000000, 0x7FFFFFFF}, {"SH", 1026, 0x7FFFFFFF, 0x80007FFF},
	} {
		c.regs[4] = r.r
		got := c.exec(rx(r.name, 4, 0, 0, r.a))
		check(t, got.regs[4] == r.want && got.psw.CC == 3 && got.code == 8, "overflow", r, got.regs[4], got.psw.CC, got.code)
	}
}

// TestSigns has the operands of LPR, LNR, LCR and LTR that the chapter names.
func TestSigns(t *testing.T) {
	c := newSetting(t, 0)
	c.psw.Prog = 0
	const least = 0x80000000
	for _, r := range []struct {
		name string
		v    uint32
		want uint32
		cc   int
	}{
		{"LPR", 0, 0, 0}, {"LPR", 1, 1, 2}, {"LPR", 0xFFFFFFFF, 1, 2}, {"LPR", least, least, 3},
		{"LNR", 0, 0, 0}, {"LNR", 1, 0xFFFFFFFF, 1}, {"LNR", 0xFFFFFFFF, 0xFFFFFFFF, 1}, {"LNR", least, least, 1},
		{"LCR", 0, 0, 0}, {"LCR", 1, 0xFFFFFFFF, 1}, {"LCR", 0xFFFFFFFF, 1, 2}, {"LCR", least, least, 3},
		{"LTR", 0, 0, 0}, {"LTR", 1, 1, 2}, {"LTR", 0xFFFFFFFF, 0xFFFFFFFF, 1}, {"LTR", least, least, 1},
	} {
		c.regs[9] = r.v
		for _, r1 := range []int{4, 9} {
			got := c.exec(rr(r.name, r1, 9))
			check(t, got.regs[r1] == r.want && got.psw.CC == r.cc && got.code == 0, "sign", r, got.regs[r1], got.psw.CC)
		}
	}
}

// TestLogical has carries and comparisons without a sign, and that nothing of it overflows.
func TestLogical(t *testing.T) {
	c := newSetting(t, 0)
	c.psw.Prog = 15
	for _, r := range []struct {
		name string
		r, v uint32
		want uint32
		cc   int
	}{
		{"ALR", 0, 0, 0, 0}, {"ALR", 1, 1, 2, 1}, {"ALR", 0xFFFFFFFF, 1, 0, 2}, {"ALR", 0xFFFFFFFF, 2, 1, 3}, {"ALR", 0x7FFFFFFF, 1, 0x80000000, 1}, {"ALR", 0x80000000, 0x80000000, 0, 2},
		{"SLR", 1, 1, 0, 2}, {"SLR", 2, 1, 1, 3}, {"SLR", 1, 2, 0xFFFFFFFF, 1}, {"SLR", 0x80000000, 1, 0x7FFFFFFF, 3}, {"SLR", 0, 0, 0, 2},
		{"CLR", 1, 0xFFFFFFFF, 1, 1}, {"CLR", 0x80000000, 0x7FFFFFFF, 0x80000000, 2}, {"CLR", 5, 5, 5, 0},
		{"CR", 1, 0xFFFFFFFF, 1, 2}, {"CR", 0x80000000, 0x7FFFFFFF, 0x80000000, 1}, {"CR", 5, 5, 5, 0},
		{"NR", 12, 10, 8, 1}, {"NR", 12, 3, 0, 0}, {"OR", 12, 10, 14, 1}, {"OR", 0, 0, 0, 0}, {"XR", 12, 10, 6, 1}, {"XR", 12, 12, 0, 0}, {"XR", 0x80000000, 0, 0x80000000, 1},
	} {
		c.regs[4], c.regs[9] = r.r, r.v
		got := c.exec(rr(r.name, 4, 9))
		check(t, got.regs[4] == r.want && got.psw.CC == r.cc && got.code == 0, "logical", r, got.regs[4], got.psw.CC)
	}
}

// TestHalfwords checks that halfwords are extended with their sign.
func TestHalfwords(t *testing.T) {
	c := newSetting(t, 0)
	c.fillWord(1024, 0x8000FFFE)
	c.fillWord(1028, 0x00030000)
	c.regs[4] = 10
	for _, r := range []struct {
		name string
		a    int
		want uint32
		cc   int
	}{
		{"LH", 1024, 0xFFFF8000, 1}, {"LH", 1026, 0xFFFFFFFE, 1}, {"LH", 1028, 3, 1}, {"LH", 1030, 0, 1},
		{"AH", 1026, 8, 2}, {"SH", 1026, 12, 2}, {"AH", 1024, 0xFFFF800A, 1}, {"SH", 1028, 7, 2},
		{"CH", 1026, 10, 2}, {"CH", 1028, 10, 2}, {"MH", 1026, 0xFFFFFFEC, 1}, {"MH", 1028, 30, 1}, {"MH", 1030, 0, 1},
	} {
		got := c.exec(rx(r.name, 4, 0, 0, r.a))
		check(t, got.regs[4] == r.want && got.psw.CC == r.cc, "halfword", r, got.regs[4], got.psw.CC)
	}
	c.regs[4] = 0xFFFFFFFE
	check(t, c.exec(rx("CH", 4, 0, 0, 1026)).psw.CC == 0, "CH of the same number")
	check(t, c.exec(rx("CH", 4, 0, 0, 1028)).psw.CC == 1, "CH of a greater number")
	c.regs[4] = 0x12345678
	check(t, c.exec(rx("MH", 4, 0, 0, 1028)).regs[4] == 0x369D0368, "MH")
	c.regs[4] = 0x40000000
	got := c.exec(rx("MH", 4, 0, 0, 1028))
	check(t, got.regs[4] == 0xC0000000 && got.code == 0, "MH keeps the low word", got.regs[4])
}

// TestProducts has products of edge words into each pair, the multiplicand being the odd register.
func TestProducts(t *testing.T) {
	c := newSetting(t, 0)
	for k, v := range edges() {
		for _, w := range edges() {
			r1 := k % 8 * 2
			c.regs[r1], c.regs[r1+1], c.regs[(r1+3)%16] = 0x76543210, v, w
			c.exec(rr("MR", r1, (r1+3)%16))
			c.exec(rr("MR", r1, r1))
			c.exec(rr("MR", r1, r1+1))
		}
	}
	c.regs[6], c.regs[7], c.regs[8] = 5, 0xFFFFFFFE, 3
	got := c.exec(rr("MR", 6, 8))
	check(t, got.regs[6] == 0xFFFFFFFF && got.regs[7] == 0xFFFFFFFA && got.psw.CC == c.psw.CC, "MR", got.regs)
}

// TestQuotients has quotients that just fit, and those that do not.
func TestQuotients(t *testing.T) {
	c := newSetting(t, 0)
	fit, unfit := 0, 0
	for _, d := range edges() {
		divisor := asSigned(number(int64(d)), 32)
		if d == 0 {
			continue
		}
		rest := plus(magnitude(divisor), number(-1))
		for _, q := range []int64{0, 1, -1, 1<<31 - 2, 1<<31 - 1, 1 << 31, 1<<31 + 1, -1<<31 + 1, -1 << 31, -1<<31 - 1, -1<<31 - 2} {
			for _, r := range []*big.Int{number(0), rest, minus(rest), number(1), number(-1)} {
				c.putPair(4, plus(times(number(q), divisor), r))
				c.regs[9] = d
				c.fillWord(1024, d)
				code := c.exec(rr("DR", 4, 9)).code
				c.exec(rx("D", 4, 0, 0, 1024))
				fit += map[int]int{0: 1}[code]
				unfit += map[int]int{9: 1}[code]
			}
		}
	}
	check(t, fit > 700 && unfit > 300, "quotients that fit and that do not", fit, unfit)
}

// TestDivision has quotients and remainders by hand, among them those that just fit and that do not.
func TestDivision(t *testing.T) {
	c := newSetting(t, 0)
	for _, r := range []struct {
		hi, lo, d uint32
		rem, quo  uint32
		code      int
	}{
		{0, 7, 2, 1, 3, 0}, {0xFFFFFFFF, 0xFFFFFFF9, 2, 0xFFFFFFFF, 0xFFFFFFFD, 0}, {0, 7, 0xFFFFFFFE, 1, 0xFFFFFFFD, 0}, {0xFFFFFFFF, 0xFFFFFFF9, 0xFFFFFFFE, 0xFFFFFFFF, 3, 0},
		{0, 0x7FFFFFFF, 1, 0, 0x7FFFFFFF, 0}, {0, 0x80000000, 1, 0, 0, 9}, {0xFFFFFFFF, 0x80000000, 1, 0, 0x80000000, 0}, {0xFFFFFFFF, 0x7FFFFFFF, 1, 0, 0, 9},
		{0, 0x80000000, 0xFFFFFFFF, 0, 0x80000000, 0}, {0, 0x80000001, 0xFFFFFFFF, 0, 0, 9}, {0xFFFFFFFF, 0x80000000, 0xFFFFFFFF, 0, 0, 9}, {0x80000000, 0, 0xFFFFFFFF, 0, 0, 9},
		{0x3FFFFFFF, 0xFFFFFFFF, 0x7FFFFFFF, 0, 0, 9}, {0x3FFFFFFF, 0x7FFFFFFF, 0x7FFFFFFF, 0x7FFFFFFE, 0x7FFFFFFF, 0}, {0, 0, 5, 0, 0, 0}, {0, 0, 0, 0, 0, 9}, {5, 5, 0, 0, 0, 9},
	} {
		c.regs[4], c.regs[5], c.regs[9] = r.hi, r.lo, r.d
		c.fillWord(1024, r.d)
		for _, i := range []api.Ins{rr("DR", 4, 9), rx("D", 4, 0, 0, 1024)} {
			got := c.exec(i)
			check(t, got.code == r.code && got.psw == c.psw, "division", r, got.code)
			check(t, r.code != 0 || got.regs[4] == r.rem && got.regs[5] == r.quo, "division", r, got.regs[4], got.regs[5])
			check(t, r.code == 0 || got.regs == c.regs, "division", r, got.regs)
		}
	}
}

// places returns numbers of places to shift by: all from 0 to 64, and addresses beyond.
func places() []int {
	var all []int
	for n := range 65 {
		all = append(all, n)
	}
	return append(all, 65, 94, 95, 96, 127, 128, 129, 4064, 4095)
}

// TestShifts shifts edge words by all numbers of places.
func TestShifts(t *testing.T) {
	c := newSetting(t, 0)
	for k, v := range edges() {
		for j, n := range places() {
			c.psw.CC, c.psw.Prog = (k+j)%4, masks()[(k+j/2)%4]
			c.regs[7] = v
			for _, name := range []string{"SLA", "SRA", "SLL", "SRL"} {
				c.exec(rs(name, 7, 0, 0, n))
			}
		}
	}
}

// TestPairShifts shifts pairs of edge words by all numbers of places.
func TestPairShifts(t *testing.T) {
	c := newSetting(t, 0)
	words := []uint32{0, 1, 0x3FFFFFFF, 0x40000000, 0x7FFFFFFF, 0x80000000, 0x80000001, 0xAAAAAAAA, 0xC0000000, 0xFFFFFFFE, 0xFFFFFFFF}
	for k, hi := range words {
		for _, lo := range words {
			for j, n := range places() {
				c.psw.CC, c.psw.Prog = (k+j)%4, masks()[(k+j/2)%4]
				c.regs[6], c.regs[7] = hi, lo
				for _, name := range []string{"SLDA", "SRDA", "SLDL", "SRDL"} {
					c.exec(rs(name, 6, 9, 0, n))
				}
			}
		}
	}
}

// TestShiftAddresses has numbers of places that are the last six bits of an address, which is no operand in storage.
func TestShiftAddresses(t *testing.T) {
	c := newSetting(t, 0)
	c.psw.Key = 5
	c.lock(0, 15)
	c.regs[8], c.regs[9] = 0x12345678, 0x9ABCDEF0
	for _, b := range []uint32{0, 1, 31, 32, 63, 64, 0xFFFFFF, 0x1000000, 0xFFFFFFFF, 0x80000003} {
		for _, d := range []int{0, 1, 31, 63, 64, 4095} {
			c.regs[6], c.regs[0] = b, 0x777
			for _, name := range []string{"SLA", "SRA", "SLL", "SRL", "SLDA", "SRDA", "SLDL", "SRDL"} {
				c.exec(rs(name, 8, 6, 6, d))
				c.exec(rs(name, 6, 3, 6, d))
				c.exec(rs(name, 8, 3, 0, d))
			}
		}
	}
	c.regs[6] = 0xFFFFFFC4
	check(t, c.exec(rs("SLL", 8, 0, 6, 0)).regs[8] == 0x23456780, "SLL by 4 places of an address")
	check(t, c.exec(rs("SRL", 8, 0, 6, 0)).regs[8] == 0x01234567, "SRL by 4 places of an address")
}

// TestShiftsByHand has shifts by 0, 31, 32 and 63 places.
func TestShiftsByHand(t *testing.T) {
	c := newSetting(t, 0)
	c.psw.Prog, c.psw.CC = 8, 0
	for _, r := range []struct {
		name   string
		hi, lo uint32
		n      int
		want   [2]uint32
		cc     int
		code   int
	}{
		{"SLA", 3, 9, 0, [2]uint32{3, 9}, 2, 0}, {"SLA", 3, 9, 30, [2]uint32{0x40000000, 9}, 3, 8}, {"SLA", 1, 9, 31, [2]uint32{0, 9}, 3, 8}, {"SLA", 0xFFFFFFFF, 9, 31, [2]uint32{0x80000000, 9}, 1, 0},
		{"SLA", 0, 9, 63, [2]uint32{0, 9}, 0, 0}, {"SLA", 0xFFFFFFFF, 9, 32, [2]uint32{0x80000000, 9}, 3, 8}, {"SLA", 1, 9, 64, [2]uint32{1, 9}, 2, 0},
		{"SRA", 0x80000000, 9, 31, [2]uint32{0xFFFFFFFF, 9}, 1, 0}, {"SRA", 0x7FFFFFFF, 9, 31, [2]uint32{0, 9}, 0, 0}, {"SRA", 0x80000000, 9, 32, [2]uint32{0xFFFFFFFF, 9}, 1, 0}, {"SRA", 0x7FFFFFFF, 9, 63, [2]uint32{0, 9}, 0, 0}, {"SRA", 5, 9, 0, [2]uint32{5, 9}, 2, 0},
		{"SLL", 0x80000001, 9, 31, [2]uint32{0x80000000, 9}, 0, 0}, {"SLL", 0xFFFFFFFF, 9, 32, [2]uint32{0, 9}, 0, 0}, {"SRL", 0x80000001, 9, 31, [2]uint32{1, 9}, 0, 0}, {"SRL", 0xFFFFFFFF, 9, 32, [2]uint32{0, 9}, 0, 0}, {"SRL", 7, 9, 0, [2]uint32{7, 9}, 0, 0},
		{"SLDA", 0, 1, 31, [2]uint32{0, 0x80000000}, 2, 0}, {"SLDA", 0, 1, 32, [2]uint32{1, 0}, 2, 0}, {"SLDA", 0, 1, 63, [2]uint32{0, 0}, 3, 8}, {"SLDA", 0xFFFFFFFF, 0xFFFFFFFF, 63, [2]uint32{0x80000000, 0}, 1, 0}, {"SLDA", 0, 0x80000000, 0, [2]uint32{0, 0x80000000}, 2, 0},
		{"SRDA", 0x80000000, 0, 63, [2]uint32{0xFFFFFFFF, 0xFFFFFFFF}, 1, 0}, {"SRDA", 0x7FFFFFFF, 0, 32, [2]uint32{0, 0x7FFFFFFF}, 2, 0}, {"SRDA", 0, 1, 31, [2]uint32{0, 0}, 0, 0}, {"SRDA", 0, 0xFFFFFFFF, 0, [2]uint32{0, 0xFFFFFFFF}, 2, 0},
		{"SLDL", 1, 0x80000000, 63, [2]uint32{0, 0}, 0, 0}, {"SLDL", 1, 0x80000001, 32, [2]uint32{0x80000001, 0}, 0, 0}, {"SLDL", 1, 2, 0, [2]uint32{1, 2}, 0, 0}, {"SRDL", 0x80000000, 5, 63, [2]uint32{0, 1}, 0, 0}, {"SRDL", 0x80000000, 5, 32, [2]uint32{0, 0x80000000}, 0, 0}, {"SRDL", 3, 1, 31, [2]uint32{0, 6}, 0, 0},
	} {
		c.regs[6], c.regs[7] = r.hi, r.lo
		got := c.exec(rs(r.name, 6, 0, 0, r.n))
		check(t, got.regs[6] == r.want[0] && got.regs[7] == r.want[1] && got.psw.CC == r.cc && got.code == r.code, "shift", r, got.regs[6], got.regs[7], got.psw.CC, got.code)
		got = c.exec(rs(r.name, 6, 7, 0, r.n+64))
		check(t, got.regs[6] == r.want[0] && got.regs[7] == r.want[1], "shift by 64 places more", r, got.regs[6], got.regs[7])
	}
}

// TestShiftOverflow has the overflow of shifts with all program masks.
func TestShiftOverflow(t *testing.T) {
	c := newSetting(t, 0)
	c.regs[6], c.regs[7] = 0x40000000, 0
	for prog := range 16 {
		c.psw.Prog = prog
		for _, name := range []string{"SLA", "SLDA"} {
			got := c.exec(rs(name, 6, 0, 0, 1))
			check(t, got.psw.CC == 3 && got.psw.Prog == prog && got.regs[6] == 0, "overflow of", name, got.psw)
			check(t, got.code == map[bool]int{true: 8}[prog >= 8], "code of", name, prog, got.code)
		}
	}
}

// TestProgramMask has every byte at the place of SPM, and other bits beside it.
func TestProgramMask(t *testing.T) {
	c := newSetting(t, 0)
	for x := range 256 {
		for _, low := range []uint32{0, 0xFFFFFF, 0x123456} {
			c.regs[11] = uint32(x)<<24 | low
			for r1, v := range c.regs {
				got := c.exec(api.Ins{Op: 0x04, Form: api.FormRR1, R1: r1})
				want := c.psw
				want.CC, want.Prog = int(v>>28)&3, int(v>>24)&15
				check(t, got.psw == want && got.regs == c.regs && got.code == 0, "SPM", r1, v, got.psw)
			}
		}
	}
}

// TestUntouchedCode has the instructions of registers that leave the condition code as it is.
func TestUntouchedCode(t *testing.T) {
	c := newSetting(t, 0)
	c.regs[4], c.regs[5] = 0, 9
	for cc := range 4 {
		c.psw.CC = cc
		for _, i := range []api.Ins{
			rr("LR", 4, 9), rx("L", 4, 0, 0, 1024), rx("LH", 4, 0, 0, 1024), rr("MR", 4, 9), rx("M", 4, 0, 0, 1024), rx("MH", 4, 0, 0, 1024), rr("DR", 4, 9), rx("D", 4, 0, 0, 1024),
			rs("SLL", 4, 0, 0, 3), rs("SRL", 4, 0, 0, 3), rs("SLDL", 4, 0, 0, 3), rs("SRDL", 4, 0, 0, 3), rx("LA", 4, 5, 6, 7), rx("IC", 4, 0, 0, 1024),
			rx("ST", 4, 0, 0, 1024), rx("STH", 4, 0, 0, 1024), rx("STC", 4, 0, 0, 1024), rs("LM", 4, 6, 0, 1024), rs("STM", 4, 6, 0, 1024), si("MVI", 1, 0, 1024),
			ss("MVC", 3, 0, 1024, 0, 1000), ss("MVN", 3, 0, 1024, 0, 1000), ss("MVZ", 3, 0, 1024, 0, 1000), ss("TR", 3, 0, 1024, 0, 1000),
		} {
			got := c.exec(i)
			check(t, got.psw == c.psw && got.code == 0, "the status after", named[i.Op], got.psw, got.code)
		}
	}
}

// TestRegisterFields has all registers in the fields R1 and R2 of the formats that have them.
func TestRegisterFields(t *testing.T) {
	c := newSetting(t, 0)
	for r1 := range 16 {
		for r2 := range 16 {
			for _, name := range namesIn(api.FormRR) {
				c.exec(rr(name, r1, r2))
			}
			for _, name := range namesIn(api.FormRS) {
				c.exec(rs(name, r1, r2, 0, 1028))
			}
		}
		for _, name := range namesIn(api.FormRX) {
			c.exec(rx(name, r1, 0, 0, 1028))
		}
	}
}
