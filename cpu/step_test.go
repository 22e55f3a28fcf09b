package cpu_test

import (
	"fmt"
	"testing"

	"jobshop/api"
)

// kinds of a pending interruption that there is before a step.
const (
	absent = iota
	masked
	admitted
)

// prepend raises an interruption of a kind.
func (x *setting) prepend(kind int) {
	x.t.Helper()
	switch kind {
	case masked:
		x.raise(api.ClassIO, 5)
	case admitted:
		x.raise(api.ClassExternal, 6)
	}
}

// instructions are some that a step executes, or cannot execute, with their events.
func instructions() map[string]api.Event {
	return map[string]api.Event{
		"1800": {}, "0000": programEvent(1), "0A09": intr(api.ClassSvc, 9), "9C000123": {Kind: api.EvStart, Unit: 0x123},
	}
}

// TestCaseStopped has a stopped processor alone, with a pending interruption, with Wait, and with both: the event is EvWait.
func TestCaseStopped(t *testing.T) {
	for kind := range 3 {
		for _, wait := range []bool{false, true} {
			x := newSetting(t, 0)
			x.load(api.PSW{Mask: 1, Wait: wait, Machine: true, Addr: at})
			x.put(at, "1800")
			x.renew(api.ClassMachine, "0008000000000000")
			x.raise(api.ClassMachine, 4)
			x.steps(intr(api.ClassMachine, 4))
			x.prepend(kind)
			x.steps(waits, waits, waits)
			check(t, x.c.Stopped(), "not stopped", kind, wait)
		}
	}
}

// TestCaseQuestion has an open question alone and with a pending interruption: the event is that of the step that opened it.
func TestCaseQuestion(t *testing.T) {
	for k, op := range []string{"9C", "9D", "9E", "9F"} {
		for kind := range 3 {
			x := newSetting(t, 0)
			x.load(api.PSW{Mask: 1, Addr: at})
			x.put(at, op+"0002470000")
			question := api.Event{Kind: api.EvStart + k, Unit: 0x247}
			x.steps(question)
			x.prepend(kind)
			x.steps(question, question)
			x.answer(1)
			want := []api.Event{programEvent(1), programEvent(1), intr(api.ClassExternal, 6)}
			x.steps(want[kind])
			check(t, !x.c.Stopped(), "stopped", kind)
		}
	}
}

// TestCasePending has a pending interruption, admitted or not, with and without Wait, before each instruction.
func TestCasePending(t *testing.T) {
	for text, event := range instructions() {
		for kind := range 3 {
			for _, wait := range []bool{false, true} {
				x := newSetting(t, 0)
				x.put(at, text)
				x.load(api.PSW{Mask: 1, Wait: wait, Addr: at})
				x.prepend(kind)
				want := event
				switch {
				case kind == admitted:
					want = intr(api.ClassExternal, 6)
				case wait:
					want = waits
				}
				x.steps(want)
			}
		}
	}
}

// TestCaseWait has Wait before what cannot be fetched.
func TestCaseWait(t *testing.T) {
	x := newSetting(t, 1)
	for _, addr := range []int{0, at, 1, 2047, 2048, 1<<24 - 1} {
		x.load(api.PSW{Wait: true, Problem: true, Key: 5, ILC: 2, CC: 3, Addr: addr})
		x.steps(waits, waits)
	}
}

// size is the number of bytes of three blocks.
const size = 3 * 2048

// fetching is a row of TestFetch: an instruction at an address, and the code in which fetching it results.
type fetching struct {
	text    string
	addr    int
	numbers []int
	key     int
	code    int
}

// fetchings are addresses at all edges: those that are odd, those at the end of storage, those in and before a protected block.
func fetchings() []fetching {
	open, locked, last := []int{0, 0, 0}, []int{0, 7, 0}, []int{0, 0, 7}
	return []fetching{
		{"1800", at, open, 5, 0}, {"1800", size - 2, open, 5, 0}, {"41100001", size - 4, open, 5, 0}, {"D20000080010", size - 6, open, 0, 0},
		{"", at + 1, open, 5, 6}, {"", 1, open, 0, 6}, {"", size - 1, open, 0, 6}, {"", size + 1, open, 0, 6}, {"", 1<<24 - 1, open, 0, 6},
		{"", 2047, locked, 5, 6}, {"", 2049, locked, 5, 6}, {"", 4095, locked, 5, 6}, {"", 4097, locked, 5, 6},
		{"", size, open, 0, 5}, {"", size + 2, open, 0, 5}, {"", 65536, open, 0, 5}, {"", 1<<24 - 2, open, 0, 5}, {"", 1<<24 - 4, open, 5, 5},
		{"4110", size - 2, open, 0, 5}, {"D200", size - 2, open, 0, 5}, {"D2000008", size - 4, open, 0, 5}, {"FFFF", size - 2, open, 0, 5}, {"BFFF", size - 2, open, 0, 5}, {"3FFF", size - 2, open, 0, 1},
		{"", 2048, locked, 5, 4}, {"", 2050, locked, 5, 4}, {"", 4094, locked, 5, 4},
		{"1800", 2046, locked, 5, 0}, {"1800", 4096, locked, 5, 0}, {"1800", 2048, locked, 3, 0}, {"1800", 2048, locked, 0, 0},
		{"41100001", 2046, locked, 5, 4}, {"41100001", 2046, locked, 3, 0}, {"41100001", 2046, locked, 0, 0}, {"41100001", 2044, locked, 5, 0},
		{"D20000080010", 2044, locked, 5, 4}, {"D20000080010", 2042, locked, 0, 0}, {"D20000080010", 2046, locked, 0, 0}, {"FFFFFFFFFFFF", 2046, locked, 5, 4}, {"BFFFFFFF", 2046, locked, 5, 4},
		{"41100001", 2046, []int{0, 6, 0}, 5, 0}, {"1800", 2048, []int{0, 6, 0}, 5, 0}, {"41100001", 2046, []int{0, 11, 0}, 5, 0}, {"41100001", 2046, []int{10, 10, 0}, 0, 0},
		{"41100001", 4094, []int{0, 6, 9}, 3, 4}, {"4110", size - 2, last, 5, 4}, {"4110", size - 2, last, 3, 5}, {"4110", size - 2, last, 0, 5}, {"D2000008", size - 4, last, 5, 4}, {"", size, last, 5, 5},
	}
}

// TestFetch is the first part of the execution of an instruction: where it cannot be fetched, the ILC becomes 0 and the address remains.
func TestFetch(t *testing.T) {
	for _, r := range fetchings() {
		for _, problem := range []bool{false, true} {
			x := newSetting(t, r.numbers...)
			x.put(min(r.addr, size), r.text)
			p := api.PSW{Key: r.key, Problem: problem, Code: 77, ILC: 3, CC: 2, Prog: 9, Addr: r.addr}
			x.load(p)
			about := fmt.Sprintf("%q at %d, key %d, blocks %v", r.text, r.addr, r.key, r.numbers)
			e := x.step()
			check(t, e == programEvent(r.code), about, e)
			if r.code == 0 || r.code == 1 {
				check(t, x.c.Count() == 1, about, "count", x.c.Count())
				continue
			}
			p.Code, p.ILC = r.code, 0
			check(t, x.c.Count() == 0 && x.digitsAt(40, 8) == textOf(p), about, "old program status word", x.digitsAt(40, 8))
			check(t, x.c.PSW() == handler(api.ClassProgram), about, "new program status word", x.c.PSW())
		}
	}
}

// TestFetchWithEveryFirstByte has every operation code where only two bytes can be fetched, and where only four can: no further byte is, and no code is executed, before all bytes are fetched.
func TestFetchWithEveryFirstByte(t *testing.T) {
	for op := range 256 {
		text := fmt.Sprintf("%02X", op)
		length := sizeOf(text)
		for _, room := range []int{2, 4} {
			for _, r := range []struct{ addr, key, code int }{{size - room, 0, 5}, {4096 - room, 5, 4}, {4096 - room, 3, 0}} {
				x := newSetting(t, 0, 0, 7)
				x.put(r.addr, text)
				x.load(api.PSW{Key: r.key, ILC: 3, Problem: op%2 == 1, Addr: r.addr})
				x.step()
				fetched := length <= room || r.code == 0
				check(t, (x.c.Count() == 1) == fetched, text, "with", room, "bytes: count", x.c.Count())
				check(t, fetched || x.digitsAt(42, 2) == fmt.Sprintf("%04X", r.code), text, "with", room, "bytes: code", x.digitsAt(42, 2))
			}
		}
	}
}

// TestFetchThatStops has an instruction that cannot be fetched, and a new program status word that is not valid: the ILC is 0 and the address remains.
func TestFetchThatStops(t *testing.T) {
	x := newSetting(t, 0)
	x.renew(api.ClassProgram, "FFFFFFFFFFFFFFFF")
	for _, addr := range []int{1, 2047, 2048, 2049} {
		p := api.PSW{Mask: 9, Code: 55, ILC: 2, CC: 1, Prog: 3, Addr: addr}
		x.load(p)
		x.steps(programEvent(6-(addr+1)%2), waits)
		p.ILC = 0
		check(t, x.c.Stopped() && x.c.PSW() == p && x.c.Count() == 0, "after what cannot be fetched", x.c.PSW())
	}
}

// TestChain executes instructions of all lengths one after the other: each begins where the one before it ends.
func TestChain(t *testing.T) {
	x := newSetting(t, 0)
	x.put(at, "1A12 41300FFF D20101000180 4E400180 0610 F1110190 01A0 05E0")
	for k, r := range []struct{ addr, ilc int }{{2, 1}, {6, 2}, {12, 3}, {16, 2}, {18, 1}, {24, 3}, {26, 1}} {
		e := x.step()
		p := x.c.PSW()
		check(t, p.Addr == at+r.addr && p.ILC == r.ilc && x.c.Count() == k+1, "after instruction", k, e, p)
	}
}

// TestWrap has an instruction behind which the instruction address would pass its end; no storage is that large, so a branch leads there.
func TestWrap(t *testing.T) {
	x := newSetting(t, 0)
	r := x.regs
	r[5] = 0xFFFFFFFE
	x.set(r)
	_, p := x.run("07F5")
	check(t, p.Addr == 0xFFFFFE && p.ILC == 1, "after a branch to the last address", p)
	x.load(p)
	x.steps(programEvent(5))
}

// TestOverflow has instructions that are complete and result in a code: the interruption has the condition code, the results stand.
func TestOverflow(t *testing.T) {
	x := newSetting(t, 0)
	for prog := range 16 {
		p := x.psw
		p.Prog = prog
		x.load(p)
		r := x.regs
		r[1], r[2] = 0x7FFFFFFF, 1
		x.set(r)
		x.put(at, "1A12")
		x.steps(programEvent([]int{0, 8}[prog/8]))
		check(t, x.c.Regs()[1] == 0x80000000, "the sum", x.c.Regs()[1])
		x.load(p)
		x.put(0x300, "99 9C 1C")
		x.put(at, "FA1003000302")
		x.steps(programEvent([]int{0, 10}[prog/4%2]))
		check(t, x.digitsAt(0x300, 2) == "000C", "the decimal sum", x.digitsAt(0x300, 2))
		if prog == 15 {
			check(t, x.digitsAt(40, 8) == "0000000AFF000206", "the old program status word", x.digitsAt(40, 8))
		}
		x.load(p)
	}
}
