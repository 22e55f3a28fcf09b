package cpu_test

import (
	"testing"

	"jobshop/api"
)

// TestProgram has a small supervisor start a program in the problem state with a key of its own. The program adds the numbers from 10 down to 1, hands the sum over by an SVC, asks for an overflow, and stores outside of its block; then the supervisor waits, until a unit reports.
func TestProgram(t *testing.T) {
	x := newSetting(t, 0, 6)
	x.set(api.Regs{12: 0x800})
	x.load(api.PSW{Addr: at})
	x.put(at, "82000280")
	x.put(0x280, "0031 0000 08 000800") // key 3, the problem state, and the bit for the overflow
	x.put(0x800, "4120000A 1B11 1A12 46200806 0A2A 5820C040 1A22 92010280")
	x.put(0x840, "40000000")
	x.renew(api.ClassSvc, "0000 0000 00 000290")
	x.put(0x290, "50100300 82000020") // keeps register 1 and returns
	x.renew(api.ClassProgram, "0000 0000 00 0002A0")
	x.put(0x2A0, "9508002B 478002B8 44000300 820002C0")
	x.put(0x2B8, "82000028") // returns after an overflow
	x.put(0x2C0, "8002 0000 00 0002C8")
	x.put(0x2C8, "9C000123 47400280 0A01")
	steps := func(n int) {
		t.Helper()
		for range n {
			e := x.step()
			check(t, e == api.Event{}, "a step of the program", e)
		}
	}
	steps(1 + 2 + 20)
	check(t, x.c.Regs()[1] == 55 && x.c.PSW().Addr == 0x80C, "the sum", x.c.Regs()[1], x.c.PSW())
	x.steps(intr(api.ClassSvc, 42))
	check(t, x.c.PSW() == api.PSW{Addr: 0x290}, "the supervisor", x.c.PSW())
	steps(2)
	check(t, x.digitsAt(0x300, 4) == "00000037" && x.c.PSW().Problem && x.c.PSW().Key == 3, "what the supervisor kept", x.digitsAt(0x300, 4))
	steps(1)
	x.steps(programEvent(8))
	steps(3)
	check(t, x.c.Regs()[2] == 0x80000000 && x.c.PSW().Addr == 0x814 && x.c.PSW().CC == 3, "after the overflow", x.c.PSW())
	x.steps(programEvent(4))
	check(t, x.digitsAt(0x280, 1) == "00", "a byte that is protected", x.digitsAt(0x280, 1))
	x.put(0x300, "1800")
	steps(4)
	x.steps(waits, waits)
	x.raise(api.ClassIO, 0x180)
	x.steps(waits)
	x.raise(api.ClassIO, 0x23)
	x.renew(api.ClassIO, "0000 0000 10 0002C8")
	x.steps(intr(api.ClassIO, 0x23), api.Event{Kind: api.EvStart, Unit: 0x123})
	x.answer(0)
	steps(1)
	x.steps(intr(api.ClassSvc, 1))
	check(t, x.c.Count() == 39, "the number of instructions", x.c.Count())
}
