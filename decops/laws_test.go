package decops_test

import (
	"bytes"
	"slices"
	"testing"

	"jobshop/api"
	"jobshop/decops"
)

// numbersFrom returns a function that returns pseudo-random numbers from 0 to n - 1.
func numbersFrom(seed uint64) func(n int) int {
	return func(n int) int {
		seed = seed*6364136223846793005 + 1442695040888963407
		return int(seed>>33) % n
	}
}

// somewhere returns an address near an edge of three blocks, most of them in storage.
func somewhere(next func(n int) int) int {
	switch next(12) {
	case 0:
		return 1<<24 - 1 - next(20)
	case 1:
		return next(6200)
	}
	return max(0, next(4)*2048+next(61)-40)
}

// some returns an instruction with the code, and puts operands into storage with which most executions are complete.
func (c *setting) some(next func(n int) int, in instruction) api.Ins {
	a1, a := somewhere(next), somewhere(next)
	n1, n2 := 1+next(16), 1+next(16)
	if isOneOf(in.name, "MP DP") && next(4) > 0 {
		n1, n2 = 2+next(15), 1+next(8)
		n2 = min(n2, n1-1)
	}
	if next(4) == 0 {
		a = max(0, a1+n1-n2)
	}
	var i api.Ins
	switch in.form {
	case api.FormRX:
		a &^= next(2) * 7
		n2 = 8
		i = convert(in.name, next(16), 0, base2, 4095)
		c.aim(base2, 4095, a)
	case api.FormSS:
		n1 = []int{n1, n1, 1 + next(256)}[next(3)]
		i = c.fields(in.name, n1, a1, 1, a)
	default:
		i = c.fields(in.name, n1, a1, n2, a)
	}
	if next(8) > 0 {
		c.operands(next, in, a1, n1, a, n2)
	}
	return i
}

// operands stores operands that are valid, as far as they are in storage.
func (c *setting) operands(next func(n int) int, in instruction, a1, n1, a, n2 int) {
	second := numberOf(next, n2)
	if in.form == api.FormRX {
		second = "00000" + numberOf(next, 8)[5:]
	}
	first := numberOf(next, n1)
	if n2 < n1 && (in.name == "MP" || in.name == "DP" && next(3) > 0) {
		first = right(numberOf(next, n1-n2), 2*n1)
	}
	if in.form == api.FormSS {
		first = ""
		for range n1 {
			first += []string{"20", "20", "20", "21", "22", "6B", "40"}[next(7)]
		}
		for range n1 / 2 {
			second += numberOf(next, 1+next(3))
		}
	}
	if in.form != api.FormRX && a1+len(first)/2 <= len(c.values) {
		c.set(a1, first)
	}
	if in.name != "SRP" && a+len(second)/2 <= len(c.values) {
		c.set(a, second)
	}
}

// status returns a program status word with the key 3 or another one.
func status(next func(n int) int) api.PSW {
	return api.PSW{
		Mask: next(256), Key: []int{0, 3, 3, 3, 5, next(16)}[next(6)], Machine: next(2) == 0, Wait: next(2) == 0, Problem: next(2) == 0,
		Code: next(65536), ILC: next(4), CC: next(4), Prog: next(16), Addr: next(1 << 24),
	}
}

// relock gives the blocks of a setting keys of which most are 3.
func (c *setting) relock(next func(n int) int) {
	for block := range len(c.values) / 2048 {
		c.lock(block, []int{6, 6, 6, 7, 10, 11, 1}[next(7)])
	}
}

// TestRandom executes instructions of all codes in all sorts of states, and compares everything with the model (P10.2, P10.3).
func TestRandom(t *testing.T) {
	next := numbersFrom(9)
	c := newSetting(t, 0, 0, 0)
	count := map[int]int{}
	for round := range 50 {
		c.relock(next)
		for at := range c.values {
			c.fill(at, byte(next(10)*16+next(10+round%7)))
		}
		for _, in := range known {
			for range 60 {
				c.psw = status(next)
				for n := range c.regs {
					c.regs[n] = uint32(next(1<<31)*2 + next(2))
				}
				count[c.exec(c.some(next, in)).code]++
			}
		}
	}
	for code, least := range map[int]int{0: 10000, 4: 3000, 5: 3000, 6: 1000, 7: 1000, 9: 100, 10: 300, 11: 100} {
		check(t, count[code] > least, "instructions with the code", code, count[code])
	}
}

// storedRange returns the bytes that an instruction may store at.
func (c *setting) storedRange(i api.Ins) (addr, n int) {
	switch name := named[i.Op]; {
	case name == "CVD":
		return c.address(i.D2, i.B2, i.X2), 8
	case isOneOf(name, "CVB CP"):
		return 0, 0
	}
	return c.address(i.D1, i.B1), i.L1 + 1
}

// TestWhatChanges is P10.3, without the model.
func TestWhatChanges(t *testing.T) {
	next := numbersFrom(3)
	c := newSetting(t, 7, 8, 6)
	codes := map[string]map[bool]int{}
	for _, in := range known {
		codes[in.name] = map[bool]int{}
	}
	for range 400 {
		c.relock(next)
		for _, in := range known {
			c.psw = status(next)
			i := c.some(next, in)
			s := c.s.Copy()
			regs, p, code := decops.Exec(i, c.regs, c.psw, s)
			complete := code == api.CodeNone || code == api.CodeDecOver
			codes[in.name][complete]++
			if !complete {
				check(t, regs == c.regs && p == c.psw && bytes.Equal(s.Bytes(0, len(c.values)), c.values), "something changed by", in.name, "with the code", code)
			}
			c.checkChanges(i, regs, p, s.Bytes(0, len(c.values)))
			for block := range 3 {
				number, ok := s.KeyOf(2048 * block)
				check(t, ok && number == int(c.numbers[2048*block]), "the key of a block changed by", in.name)
			}
		}
	}
	for _, in := range known {
		check(t, codes[in.name][true] > 50 && codes[in.name][false] > 50, "executions that were complete and that were not", in.name, codes[in.name])
	}
}

// checkChanges checks that an instruction left what it may not change.
func (c *setting) checkChanges(i api.Ins, regs api.Regs, p api.PSW, values []byte) {
	name := named[i.Op]
	p.CC = c.psw.CC
	check(c.t, p == c.psw, "program status word after", name, p)
	switch name {
	case "CVB":
		regs[i.R1] = c.regs[i.R1]
	case "EDMK":
		regs[1] = regs[1]&0xFF000000 | c.regs[1]&0xFFFFFF
	}
	check(c.t, regs == c.regs, "registers after", name, regs)
	addr, n := c.storedRange(i)
	for at := addr; at < addr+n && at < len(values); at++ {
		if c.psw.Key == 0 || c.psw.Key == int(c.numbers[at]/2) {
			values[at] = c.values[at]
		}
	}
	check(c.t, bytes.Equal(values, c.values), "storage after", name, i)
}

// TestConditionCode has the instructions that leave the condition code, with each condition code (Instructions).
func TestConditionCode(t *testing.T) {
	c := newSetting(t, 0)
	for cc := range 4 {
		c.psw.CC = cc
		for _, in := range known {
			got := c.exec(c.prepare(in.name, 1024, 512)).psw.CC
			want := cc
			if isOneOf(in.name, "ZAP AP SP CP SRP ED EDMK") {
				want = map[string]int{"ZAP": 1, "AP": 2, "SP": 2, "CP": 2, "SRP": 2, "ED": 2, "EDMK": 2}[in.name]
			}
			check(t, got == want, in.name, "condition code", got, "want", want)
		}
	}
}

// TestSequence executes a program of instructions on one storage, in which each uses the registers, the program status word and the storage that the ones before it left.
func TestSequence(t *testing.T) {
	next := numbersFrom(77)
	c := newSetting(t, 6, 7, 6)
	c.psw.Key = 3
	count := map[int]int{}
	for range 20000 {
		in := known[next(len(known))]
		i := c.some(next, in)
		want, code := c.want(i)
		regs, p, got := decops.Exec(i, c.regs, c.psw, c.s)
		check(t, regs == want.regs && p == want.psw && got == code, "results of", in.name, got, code)
		check(t, slices.Equal(c.s.Bytes(0, len(c.values)), want.values), "storage after", in.name)
		c.regs, c.psw = regs, p
		c.values = c.s.Bytes(0, len(c.values))
		count[got]++
	}
	check(t, count[0] > 5000, "instructions that were complete", count)
}

// TestCalculation is a sequence of instructions that work on what the ones before them left: 12345 times 678, divided by 9, in hundreds, twice, as a text.
func TestCalculation(t *testing.T) {
	c := newSetting(t, 6)
	c.psw.Key, c.psw.CC = 3, 0
	c.regs[2], c.regs[3] = 12345, 678
	c.set(200, "9C")
	c.set(300, "40 20 20 20 6B 20 20 20 6B 20 20 20 4B 20 20")
	edit := api.Ins{Op: 0xDF, Form: api.FormSS, L1: 14, D1: 300, D2: 130}
	for _, i := range []api.Ins{
		convert("CVD", 2, 0, 0, 96), convert("CVD", 3, 0, 0, 104),
		plain("ZAP", 8, 120, 8, 96), plain("MP", 8, 120, 3, 109), plain("DP", 8, 120, 1, 200),
		plain("ZAP", 8, 128, 7, 120), plain("SRP", 8, 128, 6, 62), convert("CVB", 4, 0, 0, 128),
		plain("AP", 6, 130, 6, 130), edit,
	} {
		regs, p, code := decops.Exec(i, c.regs, c.psw, c.s)
		check(t, code == 0, "code of", named[i.Op], code)
		c.regs, c.psw = regs, p
	}
	check(t, c.regs[4] == 9300, "the quotient in hundreds", c.regs[4])
	check(t, c.psw.CC == 2 && c.regs[1]&0xFFFFFF == 309, "after EDMK", c.psw.CC, c.regs[1]&0xFFFFFF)
	want := bytesOf("40 40 40 40 40 40 40 40 40 F1 F8 F6 4B F0 F0")
	check(t, bytes.Equal(c.s.Bytes(300, 15), want), "the text", c.s.Bytes(300, 15))
}

// plain returns an instruction with an operand of n1 bytes at d1 and one of n2 bytes at d2.
func plain(name string, n1, d1, n2, d2 int) api.Ins {
	i := bare(name)
	i.L1, i.L2, i.D1, i.D2 = n1-1, n2-1, d1, d2
	return i
}
