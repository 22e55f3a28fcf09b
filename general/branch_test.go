package general_test

import (
	"testing"

	"jobshop/api"
)

// TestConditions has all masks with all condition codes.
func TestConditions(t *testing.T) {
	c := newSetting(t, 0)
	c.regs[0], c.regs[9] = 0x1000, 0x2000
	for mask := range 16 {
		for cc := range 4 {
			c.psw.CC = cc
			taken := mask>>(3-cc)&1 == 1
			for _, r := range []struct {
				i    api.Ins
				addr int
			}{
				{rr("BCR", mask, 9), 0x2000}, {rx("BC", mask, 0, 0, 0x345), 0x345}, {rx("BC", mask, 9, 0, 5), 0x2005}, {rx("BC", mask, 0, 9, 5), 0x2005}, {rr("BCR", mask, 0), c.psw.Addr},
			} {
				want := c.psw
				if taken {
					want.Addr = r.addr
				}
				got := c.exec(r.i)
				check(t, got.psw == want && got.regs == c.regs && got.code == 0, "branch", mask, cc, r, got.psw)
			}
		}
	}
}

// TestTargets has addresses of 2^24 and more, odd ones, and those that are not in storage.
func TestTargets(t *testing.T) {
	c := newSetting(t, 31)
	c.psw.Key = 3
	for _, v := range []uint32{0, 1, 0x777777, 0xFFFFFF, 0x1000000, 0x1000001, 0xFF000000, 0xFF123457, 0xFFFFFFFF, 0x80000000} {
		c.regs[9], c.regs[4], c.regs[6] = v, 2, v
		for _, i := range []api.Ins{rr("BCR", 15, 9), rr("BALR", 4, 9), rr("BCTR", 4, 9), rx("BC", 15, 0, 9, 0), rx("BAL", 4, 9, 0, 0), rx("BCT", 4, 9, 0, 0), rs("BXLE", 4, 4, 9, 0)} {
			got := c.exec(i)
			check(t, got.psw.Addr == int(v&0xFFFFFF) && got.code == 0, "target", named[i.Op], v, got.psw.Addr)
		}
		c.exec(rx("BC", 15, 9, 6, 4095))
		c.exec(rx("BAL", 9, 9, 6, 4095))
		c.exec(rx("BCT", 9, 9, 6, 1))
		c.exec(rs("BXH", 9, 9, 6, 4095))
	}
}

// TestLinks has link words of all condition codes, program masks and instruction length codes.
func TestLinks(t *testing.T) {
	c := newSetting(t, 0)
	c.regs[9] = 0x400
	for ilc := range 4 {
		for cc := range 4 {
			for prog := range 16 {
				for _, addr := range []int{0, 1, 0x654321, 1<<24 - 1} {
					c.psw.ILC, c.psw.CC, c.psw.Prog, c.psw.Addr = ilc, cc, prog, addr
					word := uint32(ilc)<<30 | uint32(cc)<<28 | uint32(prog)<<24 | uint32(addr)
					got := c.exec(rr("BALR", 4, 9))
					check(t, got.regs[4] == word && got.psw.Addr == 0x400, "BALR", got.regs[4], got.psw.Addr)
					got = c.exec(rr("BALR", 4, 0))
					check(t, got.regs[4] == word && got.psw == c.psw, "BALR without a branch", got.regs[4], got.psw)
					got = c.exec(rr("BALR", 9, 9))
					check(t, got.regs[9] == word && got.psw.Addr == 0x400, "BALR of one register", got.regs[9], got.psw.Addr)
					got = c.exec(rx("BAL", 9, 9, 9, 4))
					check(t, got.regs[9] == word && got.psw.Addr == 0x804, "BAL of one register", got.regs[9], got.psw.Addr)
				}
			}
		}
	}
	got := c.exec(rr("BALR", 0, 0))
	check(t, got.regs[0] != c.regs[0] && got.psw == c.psw, "BALR of register 0", got.regs[0])
}

// TestCounts has BCTR and BCT of counts that become 0, and of those that do not.
func TestCounts(t *testing.T) {
	c := newSetting(t, 0)
	for _, v := range edges() {
		for cc := range 4 {
			c.psw.CC = cc
			c.regs[4], c.regs[9] = v, 0x500
			want := c.psw.Addr
			if v != 1 {
				want = 0x500
			}
			for _, i := range []api.Ins{rr("BCTR", 4, 9), rx("BCT", 4, 0, 9, 0), rx("BCT", 4, 9, 0, 0), rx("BCT", 4, 0, 0, 0x500)} {
				got := c.exec(i)
				check(t, got.regs[4] == v-1 && got.psw.Addr == want && got.psw.CC == cc, "count", named[i.Op], v, got.regs[4], got.psw)
			}
			got := c.exec(rr("BCTR", 4, 0))
			check(t, got.regs[4] == v-1 && got.psw == c.psw, "BCTR without a branch", v, got.regs[4], got.psw)
			got = c.exec(rr("BCTR", 4, 4))
			check(t, got.regs[4] == v-1 && (v == 1 || got.psw.Addr == int(v&0xFFFFFF)), "BCTR of one register", v, got.psw.Addr)
			got = c.exec(rx("BCT", 4, 4, 0, 1))
			check(t, got.regs[4] == v-1 && (v == 1 || got.psw.Addr == int((v+1)&0xFFFFFF)), "BCT of one register", v, got.psw.Addr)
		}
	}
}

// TestIndexes has BXH and BXLE with sums below, at and above the comparand, as signed numbers.
func TestIndexes(t *testing.T) {
	c := newSetting(t, 0)
	c.regs[9] = 0x600
	words := []uint32{0, 1, 2, 0x7FFFFFFE, 0x7FFFFFFF, 0x80000000, 0x80000001, 0xFFFFFFFE, 0xFFFFFFFF}
	for _, v := range words {
		for _, w := range words {
			for _, limit := range words {
				c.regs[2], c.regs[4], c.regs[5] = v, w, limit
				for _, name := range []string{"BXH", "BXLE"} {
					got := c.exec(rs(name, 2, 4, 9, 8))
					above := int32(v+w) > int32(limit)
					want := c.psw.Addr
					if above == (name == "BXH") {
						want = 0x608
					}
					check(t, got.regs[2] == v+w && got.psw.Addr == want && got.psw.CC == c.psw.CC, name, v, w, limit, got.psw.Addr)
					c.exec(rs(name, 2, 5, 9, 8))
				}
			}
		}
	}
}

// TestIndexRegisters has all pairs of registers for BXH and BXLE: R2 even, odd, equal to R1, before it, 0 and 15.
func TestIndexRegisters(t *testing.T) {
	c := newSetting(t, 0)
	for _, v := range []uint32{0x10, 0x7FFFFFF8, 0x80000001, 0xFFFFFFF0} {
		for n := range c.regs {
			c.regs[n] = v + uint32(n*n%7) - uint32(n)*v/3
		}
		for r1 := range 16 {
			for r2 := range 16 {
				for _, b := range []int{0, r1, r2, 7} {
					c.exec(rs("BXH", r1, r2, b, 8))
					c.exec(rs("BXLE", r1, r2, b, 8))
				}
			}
		}
	}
}

// TestIndexByHand has the cases of R2 that the chapter names.
func TestIndexByHand(t *testing.T) {
	c := newSetting(t, 0)
	for _, r := range []struct {
		about  string
		i      api.Ins
		regs   api.Regs
		r1     int
		sum    uint32
		branch bool
	}{
		{"R2 even", rs("BXLE", 2, 4, 0, 0x700), api.Regs{2: 1, 4: 1, 5: 2}, 2, 2, true},
		{"R2 even", rs("BXLE", 2, 4, 0, 0x700), api.Regs{2: 2, 4: 1, 5: 2}, 2, 3, false},
		{"R2 even", rs("BXH", 2, 4, 0, 0x700), api.Regs{2: 2, 4: 1, 5: 2}, 2, 3, true},
		{"R2 even", rs("BXH", 2, 4, 0, 0x700), api.Regs{2: 1, 4: 1, 5: 2}, 2, 2, false},
		{"R2 odd", rs("BXLE", 2, 5, 0, 0x700), api.Regs{2: 0, 5: 3, 4: 1, 6: 1}, 2, 3, true},
		{"R2 odd", rs("BXH", 2, 5, 0, 0x700), api.Regs{2: 1, 5: 3, 4: 9, 6: 9}, 2, 4, true},
		{"R2 equal to R1 and odd", rs("BXH", 5, 5, 0, 0x700), api.Regs{5: 3}, 5, 6, true},
		{"R2 equal to R1 and odd", rs("BXLE", 5, 5, 0, 0x700), api.Regs{5: 3}, 5, 6, false},
		{"R2 equal to R1 and even", rs("BXLE", 4, 4, 0, 0x700), api.Regs{4: 3, 5: 6}, 4, 6, true},
		{"R2 below R1, which is the comparand", rs("BXH", 5, 4, 0, 0x700), api.Regs{4: 2, 5: 7}, 5, 9, true},
		{"R2 15", rs("BXLE", 2, 15, 0, 0x700), api.Regs{0: 99, 2: 0xFFFFFFFB, 15: 4}, 2, 0xFFFFFFFF, true},
		{"R2 15", rs("BXH", 2, 15, 0, 0x700), api.Regs{0: 99, 2: 1, 15: 4}, 2, 5, true},
		{"R2 14", rs("BXLE", 2, 14, 0, 0x700), api.Regs{2: 1, 14: 4, 15: 5}, 2, 5, true},
		{"R2 0", rs("BXH", 2, 0, 0, 0x700), api.Regs{0: 8, 1: 1, 2: 1}, 2, 9, true},
		{"a sum that wraps around", rs("BXH", 2, 4, 0, 0x700), api.Regs{2: 0x7FFFFFFF, 4: 1, 5: 0}, 2, 0x80000000, false},
	} {
		c.regs = r.regs
		got := c.exec(r.i)
		want := c.psw.Addr
		if r.branch {
			want = 0x700
		}
		check(t, got.regs[r.r1] == r.sum && got.psw.Addr == want, r.about, named[r.i.Op], got.regs[r.r1], got.psw.Addr)
	}
}

// TestBranchRegisters has all registers in the fields of branches: R1 and R2 the same, R2 0, an index and a base that are R1.
func TestBranchRegisters(t *testing.T) {
	c := newSetting(t, 0)
	for r1 := range 16 {
		for r2 := range 16 {
			for _, name := range []string{"BCR", "BALR", "BCTR"} {
				c.exec(rr(name, r1, r2))
			}
			for _, name := range []string{"BC", "BAL", "BCT"} {
				c.exec(rx(name, r1, r2, 0, 6))
				c.exec(rx(name, r1, 0, r2, 6))
				c.exec(rx(name, r1, r2, r1, 6))
			}
		}
	}
}
