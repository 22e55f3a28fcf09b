package general_test

import (
	"testing"

	"jobshop/api"
)

// TestLoadAddress has sums of displacement, base and index (Terms: the address of an operand).
func TestLoadAddress(t *testing.T) {
	c := newSetting(t, 0)
	c.regs = api.Regs{0: 0x111111, 1: 0x1000, 2: 0x20000, 3: 0xFFFFFF, 4: 0xFF000010, 5: 0xFFFFFFFF, 6: 0x80000000}
	for _, r := range []struct {
		x2, b2, d2 int
		want       uint32
	}{
		{0, 0, 0, 0}, {0, 0, 4095, 4095}, {0, 1, 5, 0x1005}, {1, 0, 5, 0x1005}, {1, 2, 3, 0x21003}, {1, 1, 0, 0x2000},
		{0, 3, 0, 0xFFFFFF}, {0, 3, 1, 0}, {3, 0, 2, 1}, {3, 3, 0, 0xFFFFFE}, {3, 3, 2, 0}, {3, 1, 1, 0x1000},
		{0, 4, 0, 16}, {4, 4, 1, 33}, {5, 0, 0, 0xFFFFFF}, {5, 5, 3, 1}, {5, 1, 1, 0x1000}, {6, 6, 7, 7}, {6, 5, 1, 0}, {4, 5, 4095, 16 + 4094},
	} {
		got := c.exec(rx("LA", 7, r.x2, r.b2, r.d2))
		check(t, got.regs[7] == r.want && got.code == 0, "LA", r, got.regs[7])
		got = c.exec(rx("LA", 3, r.x2, r.b2, r.d2))
		check(t, got.regs[3] == r.want, "LA into an operand", r, got.regs[3])
	}
}

// TestEveryRegister has each register as base and as index, and none where the number is 0.
func TestEveryRegister(t *testing.T) {
	c := newSetting(t, 0)
	for x := range 16 {
		for b := range 16 {
			want := uint32(100)
			if x > 0 {
				want += c.regs[x]
			}
			if b > 0 {
				want += c.regs[b]
			}
			got := c.exec(rx("LA", (x+b)%16, x, b, 100))
			check(t, got.regs[(x+b)%16] == want&0xFFFFFF, "LA with the registers", x, b, got.regs)
		}
	}
}

// TestBases has the bases of both operands of each format with storage, among them register 0, and sums beyond 2^24.
func TestBases(t *testing.T) {
	c := newSetting(t, 0, 0)
	c.regs[0] = 0x300
	c.regs[6], c.regs[7], c.regs[8] = 0xFFFFFF00, 0x01000200, 0x400
	for _, in := range known {
		for _, b := range []int{0, 6, 7, 8} {
			for _, d := range []int{0x100, 0x104, 0x1F0, 0x208} {
				switch in.form {
				case api.FormRX:
					for _, x := range []int{0, 6, 7, 8} {
						c.exec(rx(in.name, 2, x, b, d))
					}
				case api.FormRS:
					c.exec(rs(in.name, 2, 4, b, d))
				case api.FormSI:
					c.exec(si(in.name, 0x3C, b, d))
				case api.FormS:
					c.exec(api.Ins{Op: in.op, Form: in.form, B1: b, D1: d})
				case api.FormSS:
					for _, b2 := range []int{0, 6, 7, 8} {
						c.exec(ss(in.name, 3, b, d, b2, 0x400-d))
					}
				}
			}
		}
	}
}

// operandCode executes an instruction of FormRX with the operand at a, and returns the code.
func (c *setting) operandCode(name string, a int) int {
	c.t.Helper()
	c.regs[9] = uint32(a) - 48 | 0xCD<<24
	return c.exec(rx(name, 2, 0, 9, 48)).code
}

// wholeWords, halfWords and singleBytes are instructions of FormRX by the bytes of their operands.
const (
	wholeWords  = "ST N CL O X L C A S M D AL SL"
	halfWords   = "STH LH CH AH SH MH"
	singleBytes = "STC IC"
)

// sizeOf returns the bytes of the operand of an instruction of FormRX in storage, or 0.
func sizeOf(name string) int {
	for n, list := range map[int]string{4: wholeWords, 2: halfWords, 1: singleBytes} {
		if isOneOf(name, list) {
			return n
		}
	}
	return 0
}

// TestEnds has operands at the first and the last bytes of storage, and beyond (Terms: storage is accessed).
func TestEnds(t *testing.T) {
	c := newSetting(t, 0, 0)
	for _, name := range namesIn(api.FormRX) {
		n := sizeOf(name)
		if n == 0 {
			continue
		}
		for _, a := range []int{0, n, 2048 - n, 2048, 4096 - 2*n, 4096 - n} {
			check(t, c.operandCode(name, a) == 0, "in storage", name, a)
		}
		for _, a := range []int{4096, 4096 + n, 65536, 1<<24 - n, 1<<24 - 2048} {
			check(t, c.operandCode(name, a) == 5, "beyond storage", name, a)
		}
	}
}

// TestAlignment has addresses that are divisible by 4, by 2 alone, and odd, in storage and beyond (Terms: the operand).
func TestAlignment(t *testing.T) {
	c := newSetting(t, 0)
	for _, name := range namesIn(api.FormRX) {
		n := sizeOf(name)
		for a := 1024; a < 1024+16 && n > 0; a++ {
			want := 0
			if a%n != 0 {
				want = 6
			}
			check(t, c.operandCode(name, a) == want, "alignment", name, a)
		}
		for a := 2045; a < 2053 && n > 0; a++ {
			got := c.operandCode(name, a)
			check(t, (got == 6) == (a%n != 0), "alignment at the end", name, a, got)
		}
	}
	for _, name := range []string{"LM", "STM"} {
		for a := 1024; a < 1024+8; a++ {
			got := c.exec(rs(name, 2, 4, 0, a)).code
			check(t, got == map[bool]int{false: 6}[a%4 == 0], "alignment", name, a, got)
		}
	}
}

// eachKey calls f with some keys, and for each of them with all numbers that a block can have.
func eachKey(f func(key, number int)) {
	for _, key := range []int{0, 1, 3, 7, 15} {
		for number := range 32 {
			f(key, number)
		}
	}
}

// TestKeys accesses a block with each number by keys that match, that do not, and by key 0 (Terms: storage is accessed).
func TestKeys(t *testing.T) {
	c := newSetting(t, 0, 0, 0)
	stores := "ST STH STC MVI NI OI XI TS STM MVN MVC MVZ NC OC XC TR"
	eachKey(func(key, number int) {
		c.lock(1, number)
		c.psw.Key = key
		own := key == 0 || key == number/2
		for _, in := range known {
			var i api.Ins
			switch {
			case in.form == api.FormRX && sizeOf(in.name) > 0:
				i = rx(in.name, 2, 0, 0, 2052)
			case isOneOf(in.name, "LM STM"):
				i = rs(in.name, 2, 4, 0, 2052)
			case in.form == api.FormSI:
				i = si(in.name, 1, 0, 2052)
			case in.form == api.FormS:
				i = api.Ins{Op: in.op, Form: in.form, D1: 2052}
			default:
				continue
			}
			want := 0
			if !own && (isOneOf(in.name, stores) || number%2 == 1) {
				want = 4
			}
			got := c.exec(i).code
			check(t, got == want, "key", key, "number", number, in.name, got)
		}
	})
}

// TestFieldKeys has the operands of SS instructions in blocks with each number (Terms: storage is accessed).
func TestFieldKeys(t *testing.T) {
	c := newSetting(t, 0, 0)
	eachKey(func(key, number int) {
		c.lock(1, number)
		for _, first := range []int{2 * key, 2*key + 1} {
			c.lock(0, first)
			c.psw.Key = key
			for _, name := range namesIn(api.FormSS) {
				c.exec(ss(name, 5, 0, 500, 0, 2050))
				c.exec(ss(name, 5, 0, 2050, 0, 500))
				c.exec(ss(name, 5, 0, 2044, 0, 500))
				c.exec(ss(name, 5, 0, 500, 0, 2044))
				c.exec(ss(name, 5, 0, 2050, 0, 2051))
			}
		}
	})
}

// TestTwoBlocks has operands that lie in two blocks with different keys.
func TestTwoBlocks(t *testing.T) {
	c := newSetting(t, 6, 6)
	c.psw.Key = 3
	for _, number := range []int{6, 7, 8, 9, 0, 1} {
		own := number/2 == 3
		for _, second := range []bool{false, true} {
			c.lock(0, 6)
			c.lock(1, 6)
			if second {
				c.lock(1, number)
			} else {
				c.lock(0, number)
			}
			for n := 1; n <= 15; n++ {
				crosses := n > 1 || !second
				code := c.exec(rs("STM", 0, n-1, 0, 2044)).code
				check(t, code == map[bool]int{true: 4}[crosses && !own], "STM", n, number, second, code)
				code = c.exec(rs("LM", 0, n-1, 0, 2044)).code
				check(t, code == map[bool]int{true: 4}[crosses && number%2 == 1 && !own], "LM", n, number, second, code)
			}
			for _, name := range namesIn(api.FormSS) {
				for _, n := range []int{1, 2, 3, 40, 256} {
					for _, a1 := range []int{2047, 2048 - n, 2049 - n, 2046} {
						c.exec(ss(name, n-1, 0, a1, 0, 100))
						c.exec(ss(name, n-1, 0, 1000, 0, a1))
						c.exec(ss(name, n-1, 0, a1, 0, a1-n/2))
					}
				}
			}
		}
	}
}

// TestOrder has instructions to which two codes apply (Terms: the order of codes).
func TestOrder(t *testing.T) {
	c := newSetting(t, 0, 9)
	c.psw.Key = 5
	c.lock(0, 10)
	c.regs[6], c.regs[7] = 1<<20, 0
	for _, r := range []struct {
		about string
		i     api.Ins
		code  int
	}{
		{"an odd register and no storage", rx("M", 3, 0, 6, 0), 6},
		{"an odd register and no storage", rx("D", 3, 0, 6, 0), 6},
		{"an odd register and a protected operand", rx("M", 5, 0, 0, 2048), 6},
		{"an odd register and a protected operand", rx("D", 15, 0, 0, 2048), 6},
		{"an odd register and an odd address", rx("M", 3, 0, 0, 101), 6},
		{"an odd register and a divisor 0", rr("DR", 3, 7), 6},
		{"an odd address and no storage", rx("L", 3, 0, 6, 1), 6},
		{"an odd address and a protected operand", rx("L", 3, 0, 0, 2049), 6},
		{"an odd address and the end of storage", rx("L", 3, 0, 0, 4094), 6},
		{"an odd address and the end of storage", rx("LH", 3, 0, 0, 4095), 6},
		{"an odd address and no storage", rx("ST", 3, 0, 6, 2), 6},
		{"an odd address and a protected operand", rx("STH", 3, 0, 0, 2049), 6},
		{"an odd address and no storage", rs("LM", 3, 5, 6, 2), 6},
		{"an odd address and a protected operand", rs("STM", 3, 5, 0, 2050), 6},
		{"an odd address and a protected divisor", rx("D", 2, 0, 0, 2050), 6},
		{"no storage and a division", rx("D", 2, 0, 6, 0), 5},
		{"a protected operand and a division", rx("D", 2, 0, 0, 2048), 4},
		{"a protected block and no storage", rs("LM", 0, 15, 0, 4092), 5},
		{"a protected block and no storage", rs("STM", 0, 15, 0, 4092), 5},
		{"a protected first operand and no second one", ss("MVC", 0, 0, 2048, 6, 0), 4},
		{"no first operand and a protected second one", ss("MVC", 0, 6, 0, 0, 2048), 5},
		{"a protected first operand and no second one", ss("CLC", 0, 0, 2048, 6, 0), 4},
		{"no first operand and a protected second one", ss("CLC", 0, 6, 0, 0, 2048), 5},
		{"a protected first operand and no table", ss("TR", 0, 0, 2048, 6, 0), 4},
		{"no first operand and a protected table", ss("TR", 0, 6, 0, 0, 2048), 5},
		{"a protected first operand and no table", ss("TRT", 0, 0, 2048, 6, 0), 4},
		{"no first operand and a protected table", ss("TRT", 0, 6, 0, 0, 2048), 5},
	} {
		got := c.exec(r.i).code
		check(t, got == r.code, r.about, named[r.i.Op], got)
	}
	c.fill(0, 0, 0, 0, 0)
	check(t, c.exec(rx("D", 2, 0, 0, 0)).code == 9, "a divisor 0 that can be fetched")
	c.lock(0, 9)
	check(t, c.exec(rx("D", 2, 0, 0, 0)).code == 4, "a divisor 0 that cannot be fetched")
}

// TestStoreLast has first operands that can be fetched, but not stored at: the code of another fetch comes before that of the store (Terms: the order of codes).
func TestStoreLast(t *testing.T) {
	c := newSetting(t, 10, 8, 9)
	c.psw.Key = 5
	c.regs[6] = 1 << 20
	for _, name := range []string{"MVN", "MVC", "MVZ", "NC", "OC", "XC", "TR"} {
		check(t, c.exec(ss(name, 3, 0, 2100, 0, 100)).code == 4, "a store into another block", name)
		check(t, c.exec(ss(name, 3, 0, 2100, 6, 0)).code == 5, "a second operand that is not in storage", name)
		check(t, c.exec(ss(name, 3, 0, 4094, 6, 0)).code == 4, "a first operand that cannot be fetched as a whole", name)
		check(t, c.exec(ss(name, 3, 0, 100, 0, 2100)).code == 0, "a second operand that can be fetched", name)
	}
	check(t, c.exec(ss("CLC", 3, 0, 2100, 0, 2200)).code == 0, "CLC of what can be fetched")
	check(t, c.exec(ss("TRT", 3, 0, 2100, 0, 2200)).code == 0, "TRT of what can be fetched")
	for _, name := range []string{"NI", "OI", "XI"} {
		check(t, c.exec(si(name, 1, 0, 2100)).code == 4, "a store into another block", name)
	}
	check(t, c.exec(api.Ins{Op: 0x93, Form: api.FormS, D1: 2100}).code == 4, "a TS in another block")
	check(t, c.exec(si("TM", 1, 0, 2100)).code == 0, "TM of what can be fetched")
	check(t, c.exec(si("CLI", 1, 0, 2100)).code == 0, "CLI of what can be fetched")
}

// TestBytesAtEnds has the instructions of one byte at both ends of storage, and at the bytes before and behind it.
func TestBytesAtEnds(t *testing.T) {
	c := newSetting(t, 0)
	for _, name := range namesIn(api.FormSI, api.FormS) {
		for _, r := range []struct{ a1, code int }{{0, 0}, {1, 0}, {2047, 0}, {2048, 5}, {2049, 5}, {1<<24 - 1, 5}} {
			c.regs[6] = uint32(r.a1) + 0xFF000000 - 16
			i := si(name, 0x55, 6, 16)
			if name == "TS" {
				i.I2 = 0
			}
			check(t, c.exec(i).code == r.code, "code at the end", name, r)
		}
	}
}

// TestFieldsAtEnds has SS operands at both ends of storage: no address wraps around within an operand.
func TestFieldsAtEnds(t *testing.T) {
	c := newSetting(t, 0, 0)
	places := []int{0, 1, 255, 256, 2040, 3584, 3839, 3840, 3841, 4094, 4095, 4096, 4097, 1<<24 - 256, 1<<24 - 2, 1<<24 - 1}
	for _, name := range namesIn(api.FormSS) {
		for _, n := range []int{1, 2, 3, 255, 256} {
			for _, a1 := range places {
				for _, a := range places {
					c.regs[6], c.regs[7] = uint32(a1), uint32(a)
					code := c.exec(ss(name, n-1, 6, 0, 7, 0)).code
					if isOneOf(name, "TR TRT") {
						continue
					}
					check(t, code == map[bool]int{false: 5}[a1 <= 4096-n && a <= 4096-n], "code at the end", name, n, a1, a, code)
				}
			}
		}
	}
}
