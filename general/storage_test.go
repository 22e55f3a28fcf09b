package general_test

import (
	"bytes"
	"testing"

	"jobshop/api"
)

// at returns n bytes of the storage that an execution left.
func (r result) at(addr, n int) []byte { return r.s.Bytes(addr, n) }

// TestStores has the last bytes of each register stored.
func TestStores(t *testing.T) {
	c := newSetting(t, 0)
	for r1 := range 16 {
		c.regs[r1] = 0x12345678 + uint32(r1)
		for _, r := range []struct {
			name string
			want []byte
		}{
			{"ST", []byte{0x12, 0x34, 0x56, byte(0x78 + r1)}}, {"STH", []byte{0x56, byte(0x78 + r1)}}, {"STC", []byte{byte(0x78 + r1)}},
		} {
			got := c.exec(rx(r.name, r1, 0, 0, 1024))
			n := len(r.want)
			check(t, got.code == 0 && bytes.Equal(got.at(1024, n), r.want), r.name, r1, got.at(1024, 4))
			check(t, bytes.Equal(got.at(1024+n, 8), c.values[1024+n:1032+n]) && bytes.Equal(got.at(1016, 8), c.values[1016:1024]), "what is beside", r.name)
		}
	}
}

// TestInsert has every byte inserted into a register.
func TestInsert(t *testing.T) {
	c := newSetting(t, 0)
	c.regs[4] = 0xABCDEF98
	for x := range 256 {
		c.fill(1025, byte(x))
		got := c.exec(rx("IC", 4, 0, 0, 1025))
		check(t, got.regs[4] == 0xABCDEF00+uint32(x) && got.psw == c.psw && got.code == 0, "IC of", x, got.regs[4])
	}
}

// TestMultiple has LM and STM with all pairs of registers: R2 before, at and behind R1.
func TestMultiple(t *testing.T) {
	c := newSetting(t, 0)
	for r1 := range 16 {
		for r2 := range 16 {
			n := r2 - r1 + 1
			if r2 < r1 {
				n += 16
			}
			loaded := c.exec(rs("LM", r1, r2, 0, 1024))
			for k := range 16 {
				r := (r1 + k) % 16
				want := c.regs[r]
				if k < n {
					b := c.values[1024+4*k:]
					want = uint32(b[0])<<24 | uint32(b[1])<<16 | uint32(b[2])<<8 | uint32(b[3])
				}
				check(t, loaded.regs[r] == want, "LM", r1, r2, "register", r, loaded.regs[r])
			}
			stored := c.exec(rs("STM", r1, r2, 0, 1024))
			for k := range n {
				v := c.regs[(r1+k)%16]
				check(t, bytes.Equal(stored.at(1024+4*k, 4), []byte{byte(v >> 24), byte(v >> 16), byte(v >> 8), byte(v)}), "STM", r1, r2, "word", k)
			}
			check(t, bytes.Equal(stored.at(1024+4*n, 100), c.values[1024+4*n:1124+4*n]), "behind STM", r1, r2)
		}
	}
}

// TestMultipleBase has LM into the register that is its base, and with register 0, which is no base.
func TestMultipleBase(t *testing.T) {
	c := newSetting(t, 0)
	for b := range 16 {
		c.regs[b] = 1000
		c.exec(rs("LM", 0, 15, b, 24))
		c.exec(rs("LM", b, b, b, 24))
		c.exec(rs("LM", 14, 3, b, 24))
		c.exec(rs("STM", 0, 15, b, 24))
		c.exec(rs("STM", 14, 3, b, 24))
	}
}

// TestMultipleEnds has LM and STM at the end of storage, where all words must be in it, as one access.
func TestMultipleEnds(t *testing.T) {
	c := newSetting(t, 0)
	for _, name := range []string{"LM", "STM"} {
		for n := 1; n <= 16; n++ {
			for r1 := range 16 {
				r2 := (r1 + n - 1) % 16
				check(t, c.exec(rs(name, r1, r2, 0, 2048-4*n)).code == 0, "at the end", name, n)
				check(t, c.exec(rs(name, r1, r2, 0, 2052-4*n)).code == 5, "beyond the end", name, n)
			}
		}
	}
}

// TestImmediates has every byte of storage with every immediate byte.
func TestImmediates(t *testing.T) {
	c := newSetting(t, 0)
	for x := range 256 {
		c.fill(1025, byte(x))
		c.psw.CC = x / 7 % 4
		for mask := x % 3; mask < 256; mask += 3 {
			for _, name := range namesIn(api.FormSI) {
				c.exec(si(name, mask, 0, 1025))
			}
		}
	}
}

// TestImmediatesByHand has each instruction of one byte of storage.
func TestImmediatesByHand(t *testing.T) {
	c := newSetting(t, 0)
	c.psw.CC = 1
	for _, r := range []struct {
		name    string
		x, mask byte
		want    byte
		cc      int
	}{
		{"MVI", 5, 9, 9, 1}, {"MVI", 5, 0, 0, 1},
		{"NI", 0xF0, 0x3C, 0x30, 1}, {"NI", 0xF0, 0x0F, 0, 0}, {"OI", 0xF0, 0x3C, 0xFC, 1}, {"OI", 0, 0, 0, 0}, {"XI", 0xF0, 0x3C, 0xCC, 1}, {"XI", 0x5A, 0x5A, 0, 0},
		{"CLI", 5, 5, 5, 0}, {"CLI", 5, 6, 5, 1}, {"CLI", 6, 5, 6, 2}, {"CLI", 0x80, 0x7F, 0x80, 2}, {"CLI", 0x7F, 0x80, 0x7F, 1}, {"CLI", 0, 0xFF, 0, 1},
		{"TM", 0x80, 0xC0, 0x80, 1}, {"TM", 0xC0, 0xC0, 0xC0, 3}, {"TM", 0xFF, 0xC0, 0xFF, 3}, {"TM", 0x3F, 0xC0, 0x3F, 0}, {"TM", 0xFF, 0, 0xFF, 0}, {"TM", 0, 0, 0, 0}, {"TM", 0, 0xFF, 0, 0}, {"TM", 0xFF, 0xFF, 0xFF, 3}, {"TM", 0x7F, 0xFF, 0x7F, 1},
		{"TS", 0x80, 0, 0xFF, 1}, {"TS", 0x7F, 0, 0xFF, 0}, {"TS", 0xFF, 0, 0xFF, 1}, {"TS", 0, 0, 0xFF, 0},
	} {
		c.fill(1025, r.x)
		got := c.exec(si(r.name, int(r.mask), 0, 1025))
		check(t, got.code == 0 && got.at(1025, 1)[0] == r.want && got.psw.CC == r.cc, "immediate", r, got.at(1025, 1), got.psw.CC)
	}
}

// TestTestAndSet has every byte.
func TestTestAndSet(t *testing.T) {
	c := newSetting(t, 0)
	for x := range 256 {
		c.fill(0, byte(x))
		c.psw.CC = x % 4
		got := c.exec(api.Ins{Op: 0x93, Form: api.FormS})
		check(t, got.at(0, 1)[0] == 0xFF && got.psw.CC == x/128, "TS of", x, got.psw.CC)
	}
}

// apart are distances of two operands: apart by much, overlapping by one byte and by more, and one operand with itself.
func apart(n int) []int {
	return []int{0, 1, 2, 3, n / 2, n - 2, n - 1, n, n + 1, 300, -1, -2, -3, -n / 2, 2 - n, 1 - n, -n, -n - 1, -300}
}

// TestOverlap has SS operands that overlap in both directions by all sorts of lengths.
func TestOverlap(t *testing.T) {
	c := newSetting(t, 0)
	for _, n := range []int{1, 2, 3, 4, 7, 8, 16, 100, 255, 256} {
		for _, distance := range apart(n) {
			c.fill(1000, pattern(256)...)
			c.fill(1100, 0, 0, 1, 0xF0, 0x0F, 0x10, 0xFF, 0)
			for _, name := range namesIn(api.FormSS) {
				c.exec(ss(name, n-1, 0, 1000, 0, 1000+distance))
				c.exec(ss(name, n-1, 0, 1090, 0, 1090+distance))
			}
		}
	}
}

// TestMovesByHand has operands that overlap by hand.
func TestMovesByHand(t *testing.T) {
	c := newSetting(t, 0)
	for _, r := range []struct {
		name       string
		n, a1, a   int
		want       []byte
		cc, before int
	}{
		{"MVC", 4, 1001, 1000, []byte{0x12, 0x12, 0x12, 0x12, 0x12, 0xBC}, 1, 1},
		{"MVC", 4, 1000, 1001, []byte{0x34, 0x56, 0x78, 0x9A, 0x9A, 0xBC}, 1, 1},
		{"MVC", 4, 1002, 1000, []byte{0x12, 0x34, 0x12, 0x34, 0x12, 0x34}, 1, 1},
		{"MVC", 6, 1000, 1000, []byte{0x12, 0x34, 0x56, 0x78, 0x9A, 0xBC}, 1, 1},
		{"MVC", 1, 1005, 1000, []byte{0x12, 0x34, 0x56, 0x78, 0x9A, 0x12}, 1, 1},
		{"MVN", 4, 1001, 1000, []byte{0x12, 0x32, 0x52, 0x72, 0x92, 0xBC}, 3, 3},
		{"MVN", 3, 1000, 1003, []byte{0x18, 0x3A, 0x5C, 0x78, 0x9A, 0xBC}, 3, 3},
		{"MVZ", 4, 1001, 1000, []byte{0x12, 0x14, 0x16, 0x18, 0x1A, 0xBC}, 2, 2},
		{"MVZ", 3, 1000, 1003, []byte{0x72, 0x94, 0xB6, 0x78, 0x9A, 0xBC}, 2, 2},
		{"NC", 2, 1000, 1002, []byte{0x12, 0x30, 0x56, 0x78, 0x9A, 0xBC}, 1, 3},
		{"OC", 2, 1000, 1002, []byte{0x56, 0x7C, 0x56, 0x78, 0x9A, 0xBC}, 1, 3},
		{"XC", 2, 1000, 1002, []byte{0x44, 0x4C, 0x56, 0x78, 0x9A, 0xBC}, 1, 3},
		{"XC", 6, 1000, 1000, []byte{0, 0, 0, 0, 0, 0}, 0, 3},
		{"NC", 6, 1000, 1000, []byte{0x12, 0x34, 0x56, 0x78, 0x9A, 0xBC}, 1, 3},
		{"XC", 3, 1001, 1000, []byte{0x12, 0x26, 0x70, 0x08, 0x9A, 0xBC}, 1, 3},
		{"OC", 3, 1001, 1000, []byte{0x12, 0x36, 0x76, 0x7E, 0x9A, 0xBC}, 1, 3},
		{"NC", 3, 1001, 1000, []byte{0x12, 0x10, 0x10, 0x10, 0x9A, 0xBC}, 1, 3},
		{"XC", 1, 1002, 1003, []byte{0x12, 0x34, 0x2E, 0x78, 0x9A, 0xBC}, 1, 3},
	} {
		c.fill(1000, 0x12, 0x34, 0x56, 0x78, 0x9A, 0xBC)
		c.psw.CC = r.before
		got := c.exec(ss(r.name, r.n-1, 0, r.a1, 0, r.a))
		check(t, got.code == 0 && bytes.Equal(got.at(1000, 6), r.want) && got.psw.CC == r.cc, "move", r, got.at(1000, 6), got.psw.CC)
	}
}

// TestBitwiseCode has results of which only one byte, the first, the last or one between, is not 0, and of which none is.
func TestBitwiseCode(t *testing.T) {
	c := newSetting(t, 0)
	for _, n := range []int{1, 2, 5, 256} {
		for one := -1; one < n; one++ {
			c.fill(500, make([]byte, 256)...)
			c.fill(1000, make([]byte, 256)...)
			if one >= 0 {
				c.fill(500+one, 1)
				c.fill(1000+one, 0x81)
			}
			for cc := range 2 {
				c.psw.CC = cc * 3
				for _, name := range []string{"NC", "OC", "XC"} {
					got := c.exec(ss(name, n-1, 0, 500, 0, 1000)).psw.CC
					check(t, got == map[bool]int{true: 1}[one >= 0], name, n, one, got)
				}
				check(t, c.exec(ss("MVC", n-1, 0, 500, 0, 1000)).psw.CC == 3*cc, "MVC leaves the condition code")
			}
		}
	}
}

// TestCompare has operands that differ at each place, and at several.
func TestCompare(t *testing.T) {
	c := newSetting(t, 0)
	for _, n := range []int{1, 2, 3, 255, 256} {
		c.fill(500, pattern(257)...)
		c.fill(1000, pattern(257)...)
		c.psw.CC = 3
		check(t, c.exec(ss("CLC", n-1, 0, 500, 0, 1000)).psw.CC == 0, "CLC of equal operands", n)
		for k := range n {
			old := c.values[500+k]
			c.fill(500+k, 0x7F)
			for _, r := range []struct {
				x  byte
				cc int
			}{{0x7F, 0}, {0x80, 1}, {0x7E, 2}, {0xFF, 1}, {0, 2}} {
				c.fill(1000+k, r.x)
				got := c.exec(ss("CLC", n-1, 0, 500, 0, 1000)).psw.CC
				check(t, got == r.cc, "CLC", n, k, r, got)
				if r.cc > 0 && k+1 < n {
					behind := c.values[1000+k+1]
					c.fill(1000+k+1, ^behind)
					check(t, c.exec(ss("CLC", n-1, 0, 500, 0, 1000)).psw.CC == r.cc, "CLC with a second difference", n, k, r)
					c.fill(1000+k+1, behind)
				}
			}
			c.fill(500+k, old)
			c.fill(1000+k, old)
		}
		c.fill(500+n, 1)
		check(t, c.exec(ss("CLC", n-1, 0, 500, 0, 1000)).psw.CC == 0, "CLC with a difference behind", n)
	}
}

// TestTranslate has tables apart from the operand, and with it.
func TestTranslate(t *testing.T) {
	c := newSetting(t, 0)
	c.fill(1000, 3, 0, 255, 7, 3)
	for x := range 256 {
		c.fill(400+x, byte(255-x))
	}
	got := c.exec(ss("TR", 4, 0, 1000, 0, 400))
	check(t, bytes.Equal(got.at(1000, 5), []byte{252, 255, 0, 248, 252}) && got.psw == c.psw, "TR", got.at(1000, 5))
	c.fill(1000, 1, 1, 0, 3, 2)
	got = c.exec(ss("TR", 4, 0, 1000, 0, 1000))
	check(t, bytes.Equal(got.at(1000, 5), []byte{1, 1, 1, 3, 1}), "TR with itself as table", got.at(1000, 5))
	c.fill(1000, 4, 0, 9, 9, 9)
	got = c.exec(ss("TR", 1, 0, 1000, 0, 1000))
	check(t, bytes.Equal(got.at(1000, 5), []byte{9, 9, 9, 9, 9}), "TR whose first byte is replaced before it is used", got.at(1000, 5))
}

// TestTranslateOverlap has tables that begin before, in and behind the operand, with bytes that refer to each of its places.
func TestTranslateOverlap(t *testing.T) {
	c := newSetting(t, 0)
	next := numbersFrom(5)
	for _, n := range []int{1, 2, 3, 8, 16, 255, 256} {
		for distance := -20; distance <= 20; distance++ {
			for k := range n {
				c.fill(1000+k, byte(next(20)))
			}
			c.exec(ss("TR", n-1, 0, 1000, 0, 1000+distance))
			c.exec(ss("TRT", n-1, 0, 1000, 0, 1000+distance))
		}
	}
}

// TestTranslateAccess has tables of which some bytes cannot be fetched.
func TestTranslateAccess(t *testing.T) {
	c := newSetting(t, 0, 13)
	c.psw.Key = 5
	c.lock(0, 10)
	c.fill(1000, 0, 1, 2, 3)
	for _, r := range []struct{ table, n, code int }{
		{2044, 4, 0}, {2045, 3, 0}, {2045, 4, 4}, {2047, 1, 0}, {2047, 2, 4}, {2048, 1, 4}, {4095, 1, 4}, {4096, 1, 5}, {4094, 4, 4},
	} {
		c.regs[6] = uint32(r.table)
		check(t, c.exec(ss("TR", r.n-1, 0, 1000, 6, 0)).code == r.code, "TR", r)
		c.fill(2040, 0, 0, 0, 0, 0, 0, 0, 0)
		check(t, c.exec(ss("TRT", r.n-1, 0, 1000, 6, 0)).code == r.code, "TRT", r)
	}
	c.psw.Key = 0
	c.fill(4090, 0, 0, 0, 0, 0, 0)
	for _, r := range []struct{ table, n, code int }{{4093, 3, 0}, {4093, 4, 5}, {4092, 4, 0}, {4095, 1, 0}, {4095, 2, 5}, {1<<24 - 1, 2, 5}} {
		c.regs[6] = uint32(r.table)
		check(t, c.exec(ss("TR", r.n-1, 0, 1000, 6, 0)).code == r.code, "TR", r)
		check(t, c.exec(ss("TRT", r.n-1, 0, 1000, 6, 0)).code == r.code, "TRT", r)
	}
}

// TestTranslateFirstFailure has two bytes of a table that cannot be fetched: the first one in the order of the operand counts.
func TestTranslateFirstFailure(t *testing.T) {
	c := newSetting(t, 0, 13)
	c.psw.Key = 5
	c.lock(0, 10)
	c.fill(4095, 0)
	c.regs[6] = 4096 - 100
	for _, name := range []string{"TR", "TRT"} {
		c.fill(1000, 99, 100)
		check(t, c.exec(ss(name, 1, 0, 1000, 6, 0)).code == 4, "a protected byte before one beyond storage", name)
		c.fill(1000, 100, 99)
		check(t, c.exec(ss(name, 1, 0, 1000, 6, 0)).code == 5, "a byte beyond storage before a protected one", name)
	}
}

// TestHits has the hit of TRT at each place, and at none.
func TestHits(t *testing.T) {
	c := newSetting(t, 0)
	c.regs[1], c.regs[2] = 0x89ABCDEF, 0x76543210
	for _, n := range []int{1, 2, 3, 256} {
		c.fill(400, make([]byte, 256)...)
		for k := range n {
			c.fill(1000+k, byte(255-k))
		}
		c.psw.CC = 3
		got := c.exec(ss("TRT", n-1, 0, 1000, 0, 400))
		check(t, got.psw.CC == 0 && got.regs == c.regs && got.code == 0, "TRT without a hit", n, got.psw.CC)
		for k := range n {
			c.fill(400+255-k, byte(k|1))
			c.fill(400, 0xEE)
			got := c.exec(ss("TRT", n-1, 0, 1000, 0, 400))
			check(t, got.regs[1] == 0x89000000+uint32(1000+k) && got.regs[2] == 0x76543200+uint32(k|1) || k == 255, "TRT", n, k, got.regs[1], got.regs[2])
			check(t, got.psw.CC == map[bool]int{true: 2, false: 1}[k == n-1], "TRT", n, k, got.psw.CC)
			c.fill(400+255-k, 0)
			c.fill(400, 0)
		}
	}
}

// TestHitBeforeFailure has accesses of TRT that fail behind a hit, and before one.
func TestHitBeforeFailure(t *testing.T) {
	c := newSetting(t, 0)
	c.fill(1700, make([]byte, 100)...)
	c.fill(1707, 9)
	c.fill(2044, 1, 7, 2, 7)
	got := c.exec(ss("TRT", 255, 0, 2044, 0, 1700))
	check(t, got.code == 0 && got.regs[1]&0xFFFFFF == 2045 && got.regs[2]&0xFF == 9 && got.psw.CC == 1, "a hit before the end of storage", got.regs, got.code)
	got = c.exec(ss("TRT", 4, 0, 2046, 0, 1700))
	check(t, got.code == 0 && got.regs[1]&0xFFFFFF == 2047 && got.psw.CC == 1, "a hit at the last byte of storage", got.regs, got.code)
	got = c.exec(ss("TRT", 1, 0, 2046, 0, 1700))
	check(t, got.code == 0 && got.regs[1]&0xFFFFFF == 2047 && got.psw.CC == 2, "a hit at the last byte of both", got.regs, got.code)
	c.fill(2047, 5)
	check(t, c.exec(ss("TRT", 2, 0, 2046, 0, 1700)).code == 5, "no hit before the end of storage")
	check(t, c.exec(ss("TRT", 1, 0, 2046, 0, 1700)).code == 0, "no hit at all")
	c.fill(100, 7, 200, 7)
	c.fill(2000, make([]byte, 48)...)
	c.fill(2007, 3)
	check(t, c.exec(ss("TRT", 2, 0, 100, 0, 2000)).code == 0, "a hit before a byte beyond the table")
	c.fill(100, 200, 7)
	check(t, c.exec(ss("TRT", 2, 0, 100, 0, 2000)).code == 5, "a byte beyond the table before a hit")
}

// TestHitRegisters has TRT whose addresses come from the registers that it changes.
func TestHitRegisters(t *testing.T) {
	c := newSetting(t, 0)
	c.regs[1], c.regs[2] = 0xFF000000+1000, 0x11000000+400
	c.fill(1000, 1, 2, 3)
	c.fill(400, 0, 0, 0, 0xFE)
	got := c.exec(ss("TRT", 3, 1, 0, 2, 0))
	check(t, got.regs[1] == 0xFF000000+1002 && got.regs[2] == 0x110001FE && got.psw.CC == 1, "TRT with the registers 1 and 2", got.regs)
	got = c.exec(ss("TRT", 3, 2, 600, 1, 0))
	check(t, got.regs[1] == 0xFF000000+1000 && got.regs[2] == 0x11000102 && got.psw.CC == 1, "TRT with exchanged registers", got.regs)
}
