package cpu_test

import (
	"fmt"
	"testing"

	"jobshop/api"
)

// inKey loads the program status word with which most instructions are executed, with a key.
func (x *setting) inKey(key int) {
	x.t.Helper()
	x.load(api.PSW{Key: key, Code: 0x1234, CC: 1, Prog: 6, Addr: at})
}

// give sets a register.
func (x *setting) give(n int, v uint32) {
	x.t.Helper()
	r := x.regs
	r[n] = v
	x.set(r)
}

// succeeds executes an instruction that is to have no event, and returns the program status word after it.
func (x *setting) succeeds(text string) api.PSW {
	x.t.Helper()
	e, p := x.run(text)
	check(x.t, e == api.Event{}, text, e)
	return p
}

// places are addresses at all edges of a storage of four blocks, for an operand of n bytes.
func places(n int) []int {
	return []int{
		0, 128, 2048 - n, 2048 - n + 1, 2047, 2048, 3000, 4096 - n, 4096 - n + 1, 4095, 4096, 5000, 6144 - n, 6143, 6144,
		8192 - n, 8192 - n + 1, 8191, 8192, 8200, 65528, 65535, 65536, 1<<24 - 8, 1<<24 - 1,
	}
}

// codeAt returns the code in which fetching n bytes from addr on with the key 5 results in the storage of the places, whose second block may not be fetched from, whose third one may be fetched from only, and whose last one has that key.
func codeAt(addr, n int) int {
	switch last := addr + n - 1; {
	case last >= 8192:
		return 5
	case addr < 4096 && last >= 2048:
		return 4
	}
	return 0
}

// blocks are the numbers of the blocks of the places.
func blocks() []int { return []int{0, 7, 8, 11} }

// TestSetSystemMask is SSM at all places: only the mask changes.
func TestSetSystemMask(t *testing.T) {
	x := newSetting(t, blocks()...)
	for _, addr := range places(1) {
		x.inKey(5)
		x.give(7, uint32(addr)|0xAB000000)
		if code := codeAt(addr, 1); code != 0 {
			x.fails("80007000", code)
			continue
		}
		for _, v := range []string{"00", "01", "80", "5A", "FF"} {
			x.put(addr, v)
			p := x.psw
			left := x.succeeds("80007000")
			p.Mask, p.ILC, p.Addr = value(v), 2, at+4
			check(t, left == p, "SSM at", addr, left)
		}
	}
	for v := range 256 {
		x.put(0x300, fmt.Sprintf("%02X", v))
		check(t, x.succeeds("80FF0300").Mask == v, "SSM of", v)
	}
}

// TestSetSystemMaskAdmits has an interruption that is admitted by the SSM before it.
func TestSetSystemMaskAdmits(t *testing.T) {
	x := newSetting(t, 0)
	x.put(at, "80000300 80000301 1800")
	x.put(0x300, "40 01")
	x.raise(api.ClassExternal, 9)
	x.steps(api.Event{}, api.Event{}, intr(api.ClassExternal, 9))
	check(t, x.digitsAt(24, 8) == "0100000995000208", "old program status word", x.digitsAt(24, 8))
}

// TestLoadStatus is LPSW at all places: alone, not divisible by 8, and with a program status word that is not valid, in the order of the codes.
func TestLoadStatus(t *testing.T) {
	x := newSetting(t, blocks()...)
	good := textOf(api.PSW{Mask: 0xA5, Key: 9, Machine: true, Code: 0x4321, ILC: 1, CC: 2, Prog: 7, Addr: 0xABCDEF})
	for _, near := range places(8) {
		for offset := range 16 {
			addr := (near&^7 + offset) % (1 << 24)
			for _, text := range []string{good, good[:2] + "9C" + good[4:]} {
				x.inKey(5)
				x.give(7, uint32(addr)|0xFF000000)
				if addr+8 <= 8192 {
					x.put(addr, text)
				}
				x.oneLoadStatus(addr, text == good, good)
			}
		}
	}
}

// oneLoadStatus executes LPSW at addr with the key 5.
func (x *setting) oneLoadStatus(addr int, valid bool, good string) {
	x.t.Helper()
	code := 0
	switch fetched := codeAt(addr, 8); {
	case addr%8 != 0:
		code = 6
	case fetched != 0:
		code = fetched
	case !valid:
		code = 6
	}
	if code != 0 {
		x.fails("82007000", code)
		return
	}
	left := x.succeeds("82007000")
	check(x.t, textOf(left) == good, "LPSW at", addr, left)
}

// TestLoadStatusOfAll is LPSW of program status words with every field at its ends, and with each bit alone.
func TestLoadStatusOfAll(t *testing.T) {
	x := newSetting(t, 0)
	for _, p := range statuses() {
		x.put(0x300, textOf(p))
		left := x.succeeds("82990300")
		check(t, left == p, "LPSW", left, p)
	}
	for bit := range 64 {
		b := make([]byte, 8)
		b[bit/8] = 0x80 >> (bit % 8)
		x.fill(0x300, b...)
		if bit == 12 {
			x.fails("82000300", 6)
			continue
		}
		left := x.succeeds("82000300")
		check(t, textOf(left) == fmt.Sprintf("%016X", uint64(1)<<(63-bit)), "LPSW of the bit", bit, left)
	}
}

// TestLoadStatusWorks has what an LPSW loads in effect at once: the address, the key, Wait, Problem, the masks.
func TestLoadStatusWorks(t *testing.T) {
	x := newSetting(t, 0, 7)
	x.put(at, "82000300")
	x.put(0x300, "01 53 0000 00 000208 FF 04 0000 00 000210")
	x.put(0x208, "82000308")
	x.raise(api.ClassExternal, 1)
	x.raise(api.ClassIO, 1)
	x.steps(api.Event{}, intr(api.ClassExternal, 1), api.Event{})
	check(t, x.digitsAt(24, 8) == "0153000100000208", "old program status word", x.digitsAt(24, 8))
	x.load(api.PSW{Key: 5, Problem: true, Addr: 0x208})
	x.steps(programEvent(2))
	x.load(api.PSW{Addr: 0x208})
	x.put(0x210, "1800")
	x.steps(api.Event{}, intr(api.ClassIO, 1))
}

// blockCode returns the code in which SSK and ISK of x result in a storage of so many blocks.
func blockCode(x, blocks int) int {
	switch {
	case x%16 != 0:
		return 6
	case x >= 2048*blocks:
		return 5
	}
	return 0
}

// TestKeys has SSK and ISK of addresses at all edges, with and without a high byte, in storages of several sizes: the codes in their order, and the block that they concern.
func TestKeys(t *testing.T) {
	for _, n := range []int{1, 3, 32} {
		x := newSetting(t, make([]int, n)...)
		x.load(api.PSW{Key: 5, Code: 0x1234, CC: 1, Prog: 6, Addr: at})
		for _, addr := range []int{0, 1, 8, 15, 16, 2032, 2040, 2047, 2048, 2049, 2064, 4096, 6128, 6143, 6144, 6152, 6160, 65520, 65528, 65535, 65536, 65537, 65552, 1<<24 - 16, 1<<24 - 8, 1<<24 - 1} {
			for _, high := range []uint32{0, 0x80000000, 0xFF000000} {
				x.give(3, uint32(addr)|high)
				x.give(9, 0x123456A0)
				if code := blockCode(addr, n); code != 0 {
					x.fails("0893", code)
					x.fails("0993", code)
					continue
				}
				x.succeeds("0893")
				check(t, x.keys()[addr/2048] == 20, "the key of the block of", addr)
				x.succeeds("0903")
				check(t, x.c.Regs()[0]&0xFF == 0xA0, "ISK of", addr, x.c.Regs()[0])
				x.lock(addr/2048, 0)
			}
		}
	}
}

// TestSetKey has SSK of every low byte, in every block: only the key of that block changes, also if the block has another key, or the registers are the same.
func TestSetKey(t *testing.T) {
	x := newSetting(t, 0, 7, 8, 31)
	for block := range 4 {
		for v := range 256 {
			for _, key := range []int{0, 3, 5} {
				x.load(api.PSW{Key: key, Addr: at})
				x.lock(0, 0)
				x.give(3, uint32(2048*block+16*(v%128)))
				x.give(9, 0xABCDEF00+uint32(v))
				p := x.succeeds("0893")
				check(t, p == api.PSW{Key: key, ILC: 1, Addr: at + 2}, "program status word after SSK", p)
				check(t, x.keys()[block] == v/8, "SSK of", v, x.keys())
			}
		}
	}
	x.lock(0, 0)
	x.inKey(0)
	x.give(6, 0x08F0)
	x.succeeds("0866")
	check(t, x.keys()[1] == 30, "SSK of a register with itself", x.keys())
}

// TestInsertKey has ISK of every number of a block: the low byte of the register is 8 times the number, its other bytes remain.
func TestInsertKey(t *testing.T) {
	x := newSetting(t, 0, 0, 0)
	for block := range 3 {
		for number := range 32 {
			for _, before := range []uint32{0, 0x123456FF, 0xFFFFFFFF, 0xFFFFFF00} {
				x.lock(block, number)
				x.load(api.PSW{Key: 0, Addr: at})
				x.give(3, uint32(2048*block+2032))
				x.give(9, before)
				p := x.succeeds("0993")
				check(t, p == api.PSW{ILC: 1, Addr: at + 2}, "program status word after ISK", p)
				check(t, x.c.Regs()[9] == before/256*256+uint32(8*number), "ISK of", number, x.c.Regs()[9])
			}
		}
		x.lock(block, 0)
	}
	x.lock(1, 19)
	x.give(6, 0xAA000FF0)
	x.succeeds("0966")
	check(t, x.c.Regs()[6] == 0xAA000F98, "ISK of a register with itself", x.c.Regs()[6])
}

// TestSetKeyWorks has a program that sets the key of its own block: the next instruction cannot be fetched.
func TestSetKeyWorks(t *testing.T) {
	x := newSetting(t, 10)
	x.load(api.PSW{Key: 5, Addr: at})
	x.give(3, 0)
	x.give(9, 0x38)
	x.put(at, "0893 1800")
	x.steps(api.Event{}, programEvent(4))
	check(t, x.digitsAt(40, 8) == "0050000400000202", "old program status word", x.digitsAt(40, 8))
}

// TestHighBits has an address in storage with each higher bit alone: those of the address lead beyond storage, those above it do not matter.
func TestHighBits(t *testing.T) {
	x := newSetting(t, 0, 0)
	x.put(0x308, "0020000000000200")
	x.put(0x310, "1811")
	for bit := 12; bit < 32; bit++ {
		for _, text := range []string{"80007008", "82007008", "0817", "0917", "44007010"} {
			x.inKey(5)
			x.give(1, 0x10)
			x.give(7, 1<<bit+0x300)
			if bit < 24 {
				x.fails(text, 5)
			} else {
				x.succeeds(text)
			}
			x.lock(0, 0)
		}
	}
}

// TestQuestions has SIO, TIO, HIO and TCH with all sorts of addresses: the unit has the low 16 bits, the second byte does not matter.
func TestQuestions(t *testing.T) {
	x := newSetting(t, 0)
	for k, op := range []string{"9C", "9D", "9E", "9F"} {
		for _, q := range []struct {
			base string
			v    uint32
			unit int
		}{
			{"0000", 0, 0}, {"0FFF", 0, 0xFFF}, {"00C1", 0xFFFFFFFF, 0xC1}, {"7000", 0x190, 0x190}, {"7FFF", 0x10000, 0xFFF}, {"7001", 0xFFFF, 0}, {"7001", 0xFFFFFF, 0}, {"7002", 0xFFFFFFFF, 1}, {"7ABC", 0x1234FFFF, 0xABB}, {"7000", 0xFFFE, 0xFFFE}, {"7000", 0xAB018000, 0x8000},
		} {
			for _, second := range []string{"00", "FF"} {
				x.inKey(5)
				x.give(0, q.v)
				x.give(7, q.v)
				e, p := x.run(op + second + q.base)
				check(t, e == api.Event{Kind: api.EvStart + k, Unit: q.unit}, op, q.base, q.v, e)
				check(t, p == api.PSW{Key: 5, Code: 0x1234, ILC: 2, CC: 1, Prog: 6, Addr: at + 4}, op, "program status word", p)
			}
		}
	}
}

// TestProblemState has each privileged instruction in the problem state, alone and together with each later code: CodePrivileged comes first, with each key.
func TestProblemState(t *testing.T) {
	x := newSetting(t, 0, 7)
	for _, key := range []int{0, 3, 5} {
		for _, v := range []uint32{0, 1, 8, 16, 2047, 2048, 4095, 4096, 0xFFFFFF, 0xFFFFFFF0} {
			x.give(3, v)
			for _, text := range []string{"0893", "0933", "80003000", "82003000", "9C003000", "9DFF3001", "9E003004", "9F003FFF"} {
				x.load(api.PSW{Mask: 0x7E, Key: key, Problem: true, Code: 0x1234, CC: 2, Prog: 5, Addr: at})
				x.fails(text, 2)
			}
		}
	}
}

// TestSupervisorCall has SVC with every code, in both states, with every key.
func TestSupervisorCall(t *testing.T) {
	x := newSetting(t, 0)
	for v := range 256 {
		for _, p := range []api.PSW{{Addr: at}, {Mask: 0x7E, Key: v % 16, Problem: true, Code: 3, ILC: 3, CC: 2, Prog: 15, Addr: at}} {
			x.load(p)
			e, left := x.run(fmt.Sprintf("0A%02X", v))
			p.Code, p.ILC, p.Addr = v, 1, at+2
			check(t, e == intr(api.ClassSvc, v) && left == handler(api.ClassSvc), "SVC of", v, e, left)
			check(t, x.digitsAt(32, 8) == textOf(p), "old program status word", x.digitsAt(32, 8))
		}
	}
}
