package decops_test

import (
	"slices"
	"strings"
	"testing"

	"jobshop/api"
)

// twoFields are the instructions whose second operand has a length of its own.
const twoFields = "MVO PACK UNPK ZAP CP AP SP MP DP"

// TestBases has each register as base and as index, and none where the number is 0 (Terms: addresses).
func TestBases(t *testing.T) {
	c := newSetting(t, 0, 0)
	for n := range c.regs {
		c.regs[n] = 8 << (n % 6)
	}
	for at := 0; at < 4096; at += 8 {
		c.set(at, "00 00 00 00 02 34 56 7C")
	}
	c.set(3000, "40 20 20 20 6B 20 20 20")
	sum := func(numbers ...int) int {
		a := 0
		for _, n := range numbers {
			if n > 0 {
				a += 8 << (n % 6)
			}
		}
		return a
	}
	for b := range 16 {
		for x := range 16 {
			r := c.exec(convert("CVB", 5, x, b, 512))
			check(t, r.code == 0 && r.regs[5] == 234567, "CVB with the registers", x, b)
			stored := c.exec(convert("CVD", (x+b)%16, x, b, 512))
			check(t, stored.code == 0 && stored.text(512+sum(x, b), 6) == "00 00 00 00 00 00", "CVD with the registers", x, b)
			for _, name := range strings.Fields(twoFields + " SRP") {
				i := bare(name)
				i.L1, i.L2, i.B1, i.D1, i.B2, i.D2 = 7, 2, b, 512, x, 1029
				check(t, c.exec(i).code == 0, name, "with the registers", b, x)
			}
			for _, name := range []string{"ED", "EDMK"} {
				i := bare(name)
				i.L1, i.B1, i.D1, i.B2, i.D2 = 7, b, 3000-sum(b), x, 1029
				check(t, c.exec(i).code == 0, name, "with the registers", b, x)
			}
		}
	}
}

// TestSums has sums of displacement, base and index beyond 2^24, and what the high byte of a register has.
func TestSums(t *testing.T) {
	c := newSetting(t, 0)
	c.regs = api.Regs{0: 0x111111, 1: 0xFFFFF8, 2: 0xFFFFFFF0, 3: 0x80000000, 4: 0x01000010, 5: 77, 8: 0xFFFFFFFF}
	c.set(0, "00 00 00 00 00 00 00 1C 00 00 00 00 00 00 00 2C 00 00 00 00 00 00 00 3C 00 00 00 00 00 00 00 4C")
	for _, r := range []struct{ x2, b2, d2, want, code int }{
		{0, 0, 0, 1, 0}, {0, 0, 8, 2, 0}, {0, 1, 8, 1, 0}, {0, 1, 16, 2, 0}, {1, 0, 24, 3, 0}, {1, 1, 16, 1, 0}, {1, 1, 40, 4, 0}, {2, 1, 24, 1, 0}, {2, 2, 32, 1, 0}, {2, 2, 40, 2, 0},
		{3, 0, 0, 1, 0}, {3, 3, 8, 2, 0}, {4, 0, 0, 3, 0}, {0, 4, 8, 4, 0}, {4, 3, 8, 4, 0}, {4, 2, 0, 1, 0}, {8, 0, 1, 1, 0}, {8, 8, 2, 1, 0}, {8, 8, 18, 3, 0}, {1, 8, 25, 3, 0},
		{0, 1, 0, 77, 5}, {1, 1, 8, 77, 5}, {0, 8, 0, 77, 6}, {8, 8, 0, 77, 6}, {0, 2, 4, 77, 6}, {0, 0, 2048, 77, 5},
	} {
		got := c.exec(convert("CVB", 5, r.x2, r.b2, r.d2))
		check(t, int(got.regs[5]) == r.want && got.code == r.code, "CVB", r, got.regs[5], got.code)
		stored := c.exec(convert("CVD", 5, r.x2, r.b2, r.d2))
		check(t, stored.code == r.code, "CVD", r, stored.code)
	}
}

// TestDivisible has every address from 1000 on up to the end of storage and beyond (Terms: the order of codes).
func TestDivisible(t *testing.T) {
	c := newSetting(t, 0)
	c.regs[5] = 1234
	for at := 0; at < 2048; at += 8 {
		c.set(at, "00 00 00 00 00 00 99 8D")
	}
	for a := 1000; a < 2080; a++ {
		want := codeIf(a >= 2048, 5)
		if a%8 != 0 {
			want = 6
		}
		for _, name := range []string{"CVB", "CVD"} {
			got := c.exec(c.conversion(name, a)).code
			check(t, got == want, name, "at", a, "code", got)
		}
	}
	for _, a := range []int{1<<24 - 8, 1<<24 - 4, 1<<24 - 1, 65536, 65540, 1 << 20} {
		for _, name := range []string{"CVB", "CVD"} {
			got := c.exec(c.conversion(name, a)).code
			check(t, got == map[bool]int{true: 5, false: 6}[a%8 == 0], name, "at", a, "code", got)
		}
	}
}

// digitsAt stores a valid field of n bytes at an address, as far as it is in storage.
func (c *setting) digitsAt(addr, n int, sign byte) {
	for k := range n {
		b := byte(0)
		if k == n-1 {
			b = 0x10 | sign
		}
		if at := addr + k; at >= 0 && at < len(c.values) {
			c.fill(at, b)
		}
	}
}

// TestEnds has operands of every length that end with the last byte of storage, and one byte behind it (Terms: storage is accessed).
func TestEnds(t *testing.T) {
	c := newSetting(t, 0, 0)
	for _, name := range strings.Fields(twoFields) {
		for n1 := 1; n1 <= 16; n1++ {
			for n2 := 1; n2 <= 16; n2++ {
				lengths := isOneOf(name, "MP DP") && (n2 > 8 || n2 >= n1)
				for behind := range 3 {
					c.digitsAt(1000, n1, 0xC)
					c.digitsAt(2000, n2, 0xD)
					c.digitsAt(4096+behind-n1, n1, 0xC)
					got := c.exec(c.fields(name, n1, 4096+behind-n1, n2, 2000)).code
					want := codeIf(behind > 0, 5)
					if lengths {
						want = 6
					}
					check(t, got == want, name, n1, n2, "first operand behind storage by", behind, got)
					c.digitsAt(4096+behind-n2, n2, 0xD)
					got = c.exec(c.fields(name, n1, 1000, n2, 4096+behind-n2)).code
					check(t, got == want, name, n1, n2, "second operand behind storage by", behind, got)
				}
			}
		}
	}
}

// TestFirstEnds has the first operands of SRP, ED and EDMK, of every length, at the end of storage and behind it.
func TestFirstEnds(t *testing.T) {
	c := newSetting(t, 0, 0)
	for n := 1; n <= 16; n++ {
		for behind := range 3 {
			c.digitsAt(4096+behind-n, n, 0xC)
			got := c.exec(c.shift(n, 4096+behind-n, 0, 0)).code
			check(t, got == codeIf(behind > 0, 5), "SRP", n, behind, got)
		}
	}
	for n := 1; n <= 256; n++ {
		for behind := range 2 {
			for _, name := range []string{"ED", "EDMK"} {
				c.fill(4096-n, pattern(n)...)
				c.fill(100, make([]byte, 256)...)
				got := c.exec(c.fields(name, n, 4096+behind-n, 1, 100)).code
				check(t, got == codeIf(behind > 0, 5), name, n, behind, got)
			}
		}
	}
}

// TestNoWrap has operands that begin before 2^24 and would end at 0 (Terms: addresses do not wrap around within an operand), and operands of a storage of the greatest size.
func TestNoWrap(t *testing.T) {
	c := newSetting(t, make([]int, 32)...)
	c.digitsAt(0, 9, 0xC)
	c.digitsAt(100, 8, 0xC)
	for _, name := range strings.Fields(twoFields) {
		for back := 1; back <= 16; back++ {
			for _, a := range []int{1<<24 - back, 65536 - back} {
				want := codeIf(a+8 > 65536, 5)
				c.digitsAt(a, 8, 0xC)
				got := c.exec(c.fields(name, 8, a, 1, 107)).code
				check(t, got == want, name, "first operand at", a, got)
				got = c.exec(c.fields(name, 9, 0, 8, a)).code
				check(t, got == want, name, "second operand at", a, got)
			}
		}
	}
	c.set(200, "40 20 20 20 20")
	c.set(65534, "12 3C")
	for _, name := range []string{"ED", "EDMK"} {
		check(t, c.exec(c.fields(name, 4, 200, 1, 65534)).code == 0, name, "of the last bytes of storage")
		check(t, c.exec(c.fields(name, 5, 200, 1, 65534)).code == 5, name, "of bytes behind storage")
		check(t, c.exec(c.fields(name, 4, 200, 1, 1<<24-1)).code == 5, name, "of the last address")
		check(t, c.exec(c.fields(name, 4, 1<<24-1, 1, 65534)).code == 5, name, "at the last address")
	}
}

// eachKey calls f with some keys, and for each of them with all numbers that a block can have.
func eachKey(f func(key, number int)) {
	for _, key := range []int{0, 1, 3, 7, 15} {
		for number := range 32 {
			f(key, number)
		}
	}
}

// accessCode returns the code of an instruction whose first or second operand is in a block with the number, by its steps.
func accessCode(name, operand string, key, number int) int {
	may := key == 0 || key == number/2
	stores := slices.Contains(stepsOf(name), "store "+operand)
	fetches := slices.Contains(stepsOf(name), "fetch "+operand)
	return codeIf(!may && (stores || fetches && number%2 == 1), 4)
}

// TestKeys has each operand of each instruction in a block with each number, for keys that match, that do not, and key 0 (Terms: storage is accessed).
func TestKeys(t *testing.T) {
	c := newSetting(t, 0, 0)
	eachKey(func(key, number int) {
		c.psw.Key = key
		c.lock(0, 2*key)
		c.lock(1, number)
		for _, in := range known {
			got := c.exec(c.prepare(in.name, 2048, 600)).code
			check(t, got == accessCode(in.name, "first", key, number), in.name, "key", key, "first operand in a block with the number", number, got)
			got = c.exec(c.prepare(in.name, 600, 2048)).code
			check(t, got == accessCode(in.name, "second", key, number), in.name, "key", key, "second operand in a block with the number", number, got)
		}
	})
}

// TestTwoBlocks has operands of every length that lie in two blocks, one of them with another key.
func TestTwoBlocks(t *testing.T) {
	c := newSetting(t, 0, 0)
	c.psw.Key = 3
	for _, number := range []int{6, 7, 8, 9, 0, 1} {
		for foreign := range 2 {
			c.lock(1-foreign, 6)
			c.lock(foreign, number)
			other := 1000 + 2048*(1-foreign)
			for _, name := range strings.Fields("MVO PACK UNPK ZAP CP AP SP") {
				for n := 2; n <= 16; n++ {
					a := 2048 - n/2
					c.digitsAt(a, n, 0xC)
					c.digitsAt(other, n, 0xD)
					got := c.exec(c.fields(name, n, a, n, other)).code
					check(t, got == accessCode(name, "first", 3, number), name, n, "first operand, other block", foreign, number, got)
					got = c.exec(c.fields(name, n, other, n, a)).code
					check(t, got == accessCode(name, "second", 3, number), name, n, "second operand, other block", foreign, number, got)
				}
			}
			for _, name := range strings.Fields("MP DP SRP ED EDMK") {
				got := c.exec(c.prepare(name, 2047, other)).code
				check(t, got == accessCode(name, "first", 3, number), name, "first operand, other block", foreign, number, got)
				if name == "MP" {
					continue // its second operand has one byte
				}
				got = c.exec(c.prepare(name, other, 2047)).code
				check(t, got == accessCode(name, "second", 3, number), name, "second operand, other block", foreign, number, got)
			}
		}
	}
}

// TestBesideForeign has operands that end right before a block with another key or begin right behind it.
func TestBesideForeign(t *testing.T) {
	c := newSetting(t, 6, 9, 6)
	c.psw.Key = 3
	for _, in := range known {
		first, second := trial{}.texts(in.name)
		n1, n2 := len(bytesOf(first)), len(bytesOf(second))
		check(t, c.exec(c.prepare(in.name, 2048-n1, 4096)).code == 0, in.name, "around another block")
		check(t, c.exec(c.prepare(in.name, 4096, 2048-n2)).code == 0, in.name, "around another block")
	}
}
