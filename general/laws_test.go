package general_test

import (
	"bytes"
	"iter"
	"slices"
	"testing"

	"jobshop/api"
	"jobshop/general"
)

// numbersFrom returns a function that returns pseudo-random numbers from 0 to n - 1.
func numbersFrom(seed uint64) func(n int) int {
	return func(n int) int {
		seed = seed*6364136223846793005 + 1442695040888963407
		return int(seed>>33) % n
	}
}

// place returns an address near an edge of three blocks, most of them in storage.
func place(next func(n int) int) int {
	switch next(10) {
	case 0:
		return 1<<24 - 1 - next(300)
	case 1:
		return next(6300)
	}
	return max(0, next(4)*2048+next(13)-8-next(3)/2*next(260))
}

// aim gives the register b, unless it is 0, contents with which the displacement d yields the address a.
func (c *setting) aim(next func(n int) int, b, d, a int) {
	if b > 0 {
		c.regs[b] = uint32(a-d)&0xFFFFFF | uint32(next(256))<<24
	}
}

// some returns an instruction with the code, with registers that make its operands interesting.
func (c *setting) some(next func(n int) int, in instruction) api.Ins {
	i := bare(in.name)
	for n := range c.regs {
		c.regs[n] = edges()[next(len(edges()))]
	}
	field := func() int { return next(16) }
	switch in.form {
	case api.FormRR1:
		i.R1 = field()
	case api.FormRR:
		i.R1, i.R2 = field(), field()
	case api.FormRX:
		i.R1, i.X2, i.B2, i.D2 = field(), field()*next(2), field(), next(4096)
	case api.FormRS:
		i.R1, i.R2, i.B2, i.D2 = field(), field(), field(), next(4096)
	case api.FormSI:
		i.I2, i.B1, i.D1 = next(256), field(), next(4096)
	case api.FormS:
		i.B1, i.D1 = field(), next(4096)
	case api.FormSS:
		i.L1, i.B1, i.D1, i.B2, i.D2 = []int{0, 1, 2, 7, 255, next(256)}[next(6)], field(), next(4096), field(), next(4096)
	}
	a1, a := place(next), place(next)
	if next(2) == 0 {
		a1 = max(0, a+next(2*i.L1+5)-i.L1-2)
	}
	c.aim(next, i.B1, i.D1, a1)
	if i.X2 > 0 && i.X2 != i.B2 {
		a += 1<<25 - int(c.regs[i.X2]&0xFFFFFF)
	}
	c.aim(next, i.B2, i.D2, a&^next(4))
	return i
}

// TestRandom executes instructions of all codes in all sorts of states, and compares everything with the model (P9.2 to P9.4).
func TestRandom(t *testing.T) {
	next := numbersFrom(9)
	c := newSetting(t, 0, 0, 0)
	count := map[int]int{}
	for round := range 60 {
		for block := range 3 {
			c.lock(block, []int{6, 6, 7, 10, 11, 1}[next(6)])
		}
		for at := range c.values {
			c.fill(at, byte(next(256)*(next(3)+round%2)))
		}
		for _, in := range known {
			for range 24 {
				c.psw = api.PSW{Mask: next(256), Key: []int{0, 3, 3, 3, 5, next(16)}[next(6)], Machine: next(2) == 0, Wait: next(2) == 0, Problem: next(2) == 0, Code: next(65536), ILC: next(4), CC: next(4), Prog: next(16), Addr: next(1 << 24)}
				r := c.exec(c.some(next, in))
				count[r.code]++
			}
		}
	}
	for code, least := range map[int]int{0: 20000, 4: 2000, 5: 2000, 6: 5000, 8: 300, 9: 300} {
		check(t, count[code] > least, "instructions with the code", code, count[code])
	}
}

// storedRange returns the bytes that an instruction stores at, if it stores.
func storedRange(i api.Ins, a1, a int) (addr, n int) {
	switch name := named[i.Op]; {
	case isOneOf(name, "ST STH STC"):
		return a, sizeOf(name)
	case name == "STM":
		return a, 4 * ((i.R2-i.R1+16)%16 + 1)
	case isOneOf(name, "MVI NI OI XI TS"):
		return a1, 1
	case isOneOf(name, "MVC MVN MVZ NC OC XC TR"):
		return a1, i.L1 + 1
	}
	return 0, 0
}

// mayStore yields the addresses that an instruction stores at, in blocks in which the key may store.
func (c *setting) mayStore(i api.Ins, a1, a int) iter.Seq[int] {
	return func(yield func(int) bool) {
		addr, n := storedRange(i, a1, a)
		for at := addr; at < addr+n && at < len(c.values); at++ {
			if (c.psw.Key == 0 || c.psw.Key == int(c.numbers[at]/2)) && !yield(at) {
				return
			}
		}
	}
}

// TestWhatChanges is P9.3, without the model.
func TestWhatChanges(t *testing.T) {
	next := numbersFrom(3)
	c := newSetting(t, 7, 8, 6)
	branches := "BCR BC BALR BAL BCTR BCT BXH BXLE"
	for range 100 {
		for _, in := range known {
			c.psw.Key, c.psw.Prog, c.psw.CC = next(5), next(16), next(4)
			i := c.some(next, in)
			a1, a := c.address(i.D1, i.B1), c.address(i.D2, i.B2, i.X2)
			s := c.s.Copy()
			_, p, _ := general.Exec(i, c.regs, c.psw, s)
			rest := p
			rest.CC = c.psw.CC
			if in.name == "SPM" {
				rest.Prog = c.psw.Prog
			}
			if isOneOf(in.name, branches) {
				rest.Addr = c.psw.Addr
			}
			check(t, rest == c.psw, "program status word after", in.name, p)
			b := s.Bytes(0, len(c.values))
			for at := range c.mayStore(i, a1, a) {
				b[at] = c.values[at]
			}
			check(t, bytes.Equal(b, c.values), "storage after", in.name, i)
		}
	}
}

// TestNothingByHalves is P9.4, without the model.
func TestNothingByHalves(t *testing.T) {
	next := numbersFrom(4)
	c := newSetting(t, 7, 8, 6)
	failed := map[string]bool{}
	for range 300 {
		for _, in := range known {
			c.psw.Key, c.psw.Prog = next(5), next(16)
			i := c.some(next, in)
			s := c.s.Copy()
			regs, p, code := general.Exec(i, c.regs, c.psw, s)
			if code != api.CodeNone && code != api.CodeOverflow {
				failed[in.name] = true
				check(t, regs == c.regs && p == c.psw, "registers or status after", in.name, code)
				check(t, bytes.Equal(s.Bytes(0, len(c.values)), c.values), "storage after", in.name, code)
			}
		}
	}
	for _, in := range known {
		may := sizeOf(in.name) > 0 || isOneOf(in.name, "LM STM MR DR SLDA SRDA SLDL SRDL") || in.form == api.FormSI || in.form == api.FormS || in.form == api.FormSS
		check(t, failed[in.name] == may, "whether it failed:", in.name, failed[in.name])
	}
}

// TestRegisterOrder is P9.5.
func TestRegisterOrder(t *testing.T) {
	c := newSetting(t, 0)
	for r1 := range 16 {
		for r2 := range 16 {
			for _, a := range []int{0, 4, 1000, 2048 - 64} {
				_, _, code := general.Exec(rs("STM", r1, r2, 0, a), c.regs, c.psw, c.s)
				check(t, code == 0, "STM", r1, r2, code)
				var empty api.Regs
				for n := range empty {
					empty[n] = 0xEEEEEE00 + uint32(n)
				}
				regs, p, code := general.Exec(rs("LM", r1, r2, 0, a), empty, c.psw, c.s)
				check(t, code == 0 && p == c.psw, "LM", r1, r2, code)
				for n := range regs {
					want := empty[n]
					if (n-r1+16)%16 <= (r2-r1+16)%16 {
						want = c.regs[n]
					}
					check(t, regs[n] == want, "register", n, "after STM and LM", r1, r2)
				}
			}
		}
	}
}

// run executes an instruction that is to have the code 0 and to leave the registers.
func (c *setting) run(i api.Ins) {
	c.t.Helper()
	regs, _, code := general.Exec(i, c.regs, c.psw, c.s)
	check(c.t, code == 0 && regs == c.regs, "code of", named[i.Op], code)
}

// TestMoves is P9.6.
func TestMoves(t *testing.T) {
	for n := 1; n <= 256; n++ {
		c := newSetting(t, 0)
		x, y := c.s.Bytes(300, n), c.s.Bytes(1100, n)
		c.run(ss("MVC", n-1, 0, 700, 0, 300))
		check(t, bytes.Equal(c.s.Bytes(700, n), x) && bytes.Equal(c.s.Bytes(300, n), x), "MVC", n)
		c.run(ss("MVC", n-1, 0, 701, 0, 700))
		check(t, bytes.Equal(c.s.Bytes(700, n+1), bytes.Repeat(x[:1], n+1)), "MVC to the next byte", n)
		c.run(ss("XC", n-1, 0, 300, 0, 1100))
		c.run(ss("XC", n-1, 0, 1100, 0, 300))
		c.run(ss("XC", n-1, 0, 300, 0, 1100))
		check(t, bytes.Equal(c.s.Bytes(300, n), y) && bytes.Equal(c.s.Bytes(1100, n), x), "three XCs", n)
		c.run(ss("XC", n-1, 0, 300, 0, 300))
		check(t, bytes.Equal(c.s.Bytes(300, n), make([]byte, n)) && bytes.Equal(c.s.Bytes(300+n, 100), c.values[300+n:400+n]), "XC with itself", n)
	}
}

// TestLinkWords is P9.7.
func TestLinkWords(t *testing.T) {
	c := newSetting(t, 0)
	for _, addr := range []int{0, 2, 0x123456, 1<<24 - 2} {
		for cc := range 4 {
			for prog := range 16 {
				for r1 := 1; r1 < 16; r1++ {
					before := c.psw
					before.CC, before.Prog, before.Addr = cc, prog, addr
					regs, p, code := general.Exec(rr("BALR", r1, 0), c.regs, before, c.s)
					check(t, code == 0 && p == before, "BALR", p)
					p.CC, p.Prog, p.Addr = 3-cc, 15-prog, 0x400
					regs, p, code = general.Exec(api.Ins{Op: 0x04, Form: api.FormRR1, R1: r1}, regs, p, c.s)
					check(t, code == 0 && p.CC == cc && p.Prog == prog && p.Addr == 0x400, "SPM", p)
					_, p, code = general.Exec(rr("BCR", 15, r1), regs, p, c.s)
					check(t, code == 0 && p == before, "BCR", p)
				}
			}
		}
	}
}

// TestArguments checks that neither the registers nor the instruction of the caller change (R3).
func TestArguments(t *testing.T) {
	c := newSetting(t, 0)
	for _, i := range valid() {
		regs, p, same := c.regs, c.psw, i
		r, _, _ := general.Exec(i, regs, p, c.s.Copy())
		check(t, regs == c.regs && p == c.psw && i == same, "arguments of", named[i.Op])
		for n := range r {
			r[n]++
		}
		check(t, regs == c.regs && c.exec(i).code == 0, "arguments after the results changed", named[i.Op])
	}
}

// TestSequence executes a program of instructions on one storage, in which each uses what the ones before it left.
func TestSequence(t *testing.T) {
	next := numbersFrom(77)
	c := newSetting(t, 6, 7, 6)
	c.psw.Key = 3
	for range 20000 {
		in := known[next(len(known))]
		regs := c.regs
		i := c.some(next, in)
		if next(3) > 0 {
			kept := c.regs
			c.regs = regs
			for _, b := range []int{i.B1, i.B2, i.X2} {
				c.regs[b] = kept[b]
			}
		}
		want, code := c.want(i)
		got, p, gotCode := general.Exec(i, c.regs, c.psw, c.s)
		check(t, got == want.regs && p == want.psw && gotCode == code, "results of", in.name, gotCode, code)
		check(t, slices.Equal(c.s.Bytes(0, len(c.values)), want.values), "storage after", in.name)
		c.model = want
	}
}
