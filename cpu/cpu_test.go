package cpu_test

import (
	"slices"
	"testing"

	"jobshop/api"
	"jobshop/cpu"
	"jobshop/isa"
	"jobshop/store"
)

// TestExpectations checks the expectations themselves: the lists have every operation code that exists once, and the names are right.
func TestExpectations(t *testing.T) {
	var all []int
	for op := range 256 {
		code := textOf(api.PSW{Mask: op})[:2]
		n := 0
		for _, found := range []bool{isOneOf(code, generals), isOneOf(code, decimals), named[code] != ""} {
			if found {
				all = append(all, op)
				n++
			}
		}
		check(t, n < 2, "an operation code in two lists", code)
		check(t, named[code] == "" || named[code] == isa.Name(op), "another name", code)
		check(t, isOneOf(named[code], privileged) == isa.Privileged(op), "whether it is privileged", code)
	}
	check(t, slices.Equal(all, isa.Ops()), "other operation codes", all)
}

// TestNew is P11.1: what a new processor has.
func TestNew(t *testing.T) {
	for _, size := range []int{2048, 4096, 65536} {
		s, _ := store.New(size)
		s.Put(0, pattern(size), 0)
		c, err := cpu.New(s)
		if c == nil || err != api.OK {
			t.Fatalf("New = %v, %d", c, err)
		}
		check(t, c.Regs() == api.Regs{} && c.PSW() == api.PSW{} && !c.Stopped() && c.Count() == 0, "a new processor", c.Regs(), c.PSW(), c.Stopped(), c.Count())
		for class := range 8 {
			check(t, len(c.Pending(class)) == 0, "pending at first", class)
		}
		for cc := range 4 {
			err := c.Answer(cc)
			check(t, err == api.ErrState, "a question at first", err)
		}
		check(t, slices.Equal(s.Bytes(0, size), pattern(size)), "New changed the storage")
		s.Put(0, bytesOf("1A00"), 0)
		e := c.Step()
		check(t, e == api.Event{} && c.PSW() == api.PSW{Addr: 2, ILC: 1} && c.Count() == 1, "the first step", e, c.PSW())
	}
}

// TestNewOfNothing is P11.1.
func TestNewOfNothing(t *testing.T) {
	c, err := cpu.New(nil)
	check(t, c == nil && err == api.ErrNil, "New of no storage", c, err)
}

// TestNil has every method of a nil processor (R1).
func TestNil(t *testing.T) {
	var c *cpu.CPU
	check(t, c.Regs() == api.Regs{} && c.PSW() == api.PSW{} && c.Step() == api.Event{} && !c.Stopped() && c.Count() == 0, "what a nil processor shows")
	for class := range 7 {
		check(t, c.Pending(class) == nil, "pending of a nil processor", class)
	}
	for about, err := range map[string]api.Errno{
		"SetRegs": c.SetRegs(api.Regs{1}), "Load": c.Load(api.PSW{}), "Load of what is not valid": c.Load(api.PSW{CC: 4}),
		"Answer": c.Answer(1), "Answer of 4": c.Answer(4), "Raise": c.Raise(api.ClassExternal, 1), "Raise of no class": c.Raise(9, 1),
	} {
		check(t, err == api.ErrNil, about, err)
	}
}

// TestRegisters sets every register to all sorts of words (P11.1).
func TestRegisters(t *testing.T) {
	x := newSetting(t, 0)
	for n := range 16 {
		for _, v := range []uint32{0, 1, 0x7FFFFFFF, 0x80000000, 0x12345678, 0xFFFFFFFF} {
			r := x.regs
			r[n] = v
			x.set(r)
			r[n]++
			check(t, x.c.Regs() == x.regs, "the registers changed with the argument")
		}
	}
	got := x.c.Regs()
	got[3]++
	check(t, x.c.Regs() == x.regs, "the registers changed with the result")
}

// statuses are program status words with every field at both ends and in between.
func statuses() []api.PSW {
	all := []api.PSW{{}, {Mask: 255, Key: 15, Machine: true, Wait: true, Problem: true, Code: 65535, ILC: 3, CC: 3, Prog: 15, Addr: 1<<24 - 1}}
	for _, v := range []int{1, 2, 3} {
		all = append(all, api.PSW{ILC: v}, api.PSW{CC: v})
	}
	for k := range 24 {
		all = append(all, api.PSW{Addr: 1 << k}, api.PSW{Code: 1 << (k % 16)}, api.PSW{Mask: 1 << (k % 8)}, api.PSW{Key: 1 << (k % 4)}, api.PSW{Prog: 1 << (k % 4)})
	}
	return append(all, api.PSW{Machine: true}, api.PSW{Wait: true}, api.PSW{Problem: true})
}

// TestLoad is P11.1: Load of valid program status words, also after one another.
func TestLoad(t *testing.T) {
	x := newSetting(t, 0)
	x.raise(api.ClassMachine, 5)
	for _, p := range statuses() {
		x.load(p)
	}
}

// invalid are program status words with one field out of its range, or several.
func invalid() []api.PSW {
	var all []api.PSW
	for k, most := range []int{255, 15, 65535, 3, 3, 15, 1<<24 - 1} {
		for _, v := range append(far(), most+1, most+2, 2*most+2) {
			p := api.PSW{Mask: 1, Key: 1, Code: 1, ILC: 1, CC: 1, Prog: 1, Addr: 2}
			*[]*int{&p.Mask, &p.Key, &p.Code, &p.ILC, &p.CC, &p.Prog, &p.Addr}[k] = v
			if v > most || v < 0 {
				all = append(all, p)
			}
		}
	}
	return append(all, api.PSW{Mask: 256, Addr: -1}, api.PSW{CC: 4, ILC: 4})
}

// refuseLoad has Load refuse program status words, and nothing change.
func (x *setting) refuseLoad(about string) {
	x.t.Helper()
	for _, p := range invalid() {
		err := x.c.Load(p)
		check(x.t, err == api.ErrArg, about, "Load", p, err)
	}
	x.compare(about)
	x.step()
}

// TestLoadOfInvalid is P11.1: Load of what is not valid, also while a question is open, while the processor is stopped and while it waits.
func TestLoadOfInvalid(t *testing.T) {
	x := newSetting(t, 0)
	x.put(at, "9C00012318001800")
	x.refuseLoad("before an SIO")
	x.refuseLoad("with an open question")
	x.answer(3)
	x.refuseLoad("after the answer")
	x.stop()
	x.refuseLoad("stopped")
	check(t, x.c.Stopped() && x.step() == waits, "Load of what is not valid started the processor")
	x.load(api.PSW{Wait: true})
	x.refuseLoad("waiting")
}

// stop stops the processor by an SVC whose new program status word is not valid.
func (x *setting) stop() {
	x.t.Helper()
	x.renew(api.ClassSvc, "0008000000000000")
	x.put(x.psw.Addr, "0A07")
	if e := x.step(); e != intr(api.ClassSvc, 7) || !x.c.Stopped() {
		x.t.Errorf("SVC: event %+v, stopped %v", e, x.c.Stopped())
	}
}

// TestLoadStarts is P11.1: Load starts a stopped processor and drops a question; pending interruptions, registers and the number remain.
func TestLoadStarts(t *testing.T) {
	x := newSetting(t, 0)
	x.raise(api.ClassIO, 700)
	p := x.psw
	x.stop()
	x.steps(waits, waits)
	x.load(p)
	x.put(at, "9D000007")
	question := api.Event{Kind: api.EvTest, Unit: 7}
	x.steps(question, question)
	x.load(p)
	err := x.c.Answer(1)
	check(t, err == api.ErrState, "Answer to a question that was dropped", err)
	x.compare("Answer to a question that was dropped")
	x.put(at, "1800")
	x.steps(api.Event{})
	check(t, x.c.Count() == 3 && slices.Equal(x.c.Pending(api.ClassIO), []int{700}), "after Load", x.c.Count(), x.c.Pending(api.ClassIO))
}

// TestAnswer is P11.3: every condition code for every question, after each one before it, and what is no condition code.
func TestAnswer(t *testing.T) {
	x := newSetting(t, 0)
	start := x.psw
	for k, op := range []string{"9C", "9D", "9E", "9F"} {
		for before := range 4 {
			for cc := range 4 {
				start.CC = before
				x.load(start)
				x.put(at, op+"0001801800")
				question := api.Event{Kind: api.EvStart + k, Unit: 0x180}
				x.steps(question, question)
				x.refuseAnswers(api.ErrArg)
				x.steps(question)
				x.answer(cc)
				check(t, x.c.PSW().CC == cc, "condition code", x.c.PSW().CC, "want", cc)
				x.refuseAnswers(api.ErrState)
				x.steps(api.Event{})
			}
		}
	}
}

// refuseAnswers has Answer refuse what is no condition code, and, if there is no question, every condition code.
func (x *setting) refuseAnswers(err api.Errno) {
	x.t.Helper()
	for _, cc := range append(far(), 4, 5, 7, 8, 255) {
		got := x.c.Answer(cc)
		check(x.t, got == api.ErrArg, "Answer of", cc, got)
	}
	for cc := 0; cc < 4 && err == api.ErrState; cc++ {
		got := x.c.Answer(cc)
		check(x.t, got == err, "Answer without a question", cc, got)
	}
	x.compare("Answer that is refused")
}

// TestAnswerWithoutQuestion is P11.3: at first, after an instruction that asks nothing, after an interruption, while waiting, when stopped.
func TestAnswerWithoutQuestion(t *testing.T) {
	x := newSetting(t, 0)
	x.refuseAnswers(api.ErrState)
	x.put(at, "18000A05")
	x.steps(api.Event{})
	x.refuseAnswers(api.ErrState)
	x.steps(intr(api.ClassSvc, 5))
	x.refuseAnswers(api.ErrState)
	x.load(api.PSW{Wait: true})
	x.steps(waits)
	x.refuseAnswers(api.ErrState)
	x.load(api.PSW{Addr: at})
	x.stop()
	x.refuseAnswers(api.ErrState)
}

// TestCount is P11.5: what counts, and what does not.
func TestCount(t *testing.T) {
	x := newSetting(t, 0, 0)
	count := func(want int, about string) {
		t.Helper()
		check(t, x.c.Count() == want, about, x.c.Count(), "want", want)
	}
	x.run("1A12")
	count(1, "an instruction of two bytes")
	x.run("41100001")
	count(2, "an instruction of four bytes")
	x.run("D20001000180")
	count(3, "an instruction of six bytes")
	x.run("0000")
	count(4, "no instruction")
	x.run("1C10")
	count(5, "an instruction that is refused")
	x.run("0A01")
	count(6, "SVC")
	x.put(0x100, "1800")
	x.run("44000100")
	count(7, "EX")
	x.run("44000101")
	count(8, "EX that is refused")
	x.run("9C000001")
	count(9, "SIO")
	x.load(api.PSW{Addr: 3})
	x.step()
	x.load(api.PSW{Addr: 4096})
	x.step()
	count(9, "what cannot be fetched")
	x.load(api.PSW{Wait: true})
	x.step()
	count(9, "waiting")
	x.load(api.PSW{Machine: true, Addr: at})
	x.raise(api.ClassMachine, 1)
	x.step()
	count(9, "an interruption")
	x.load(api.PSW{Addr: at})
	count(9, "Load")
	x.stop()
	x.step()
	count(10, "SVC that stops")
}

// TestTwoProcessors has two processors, on one storage and on two (P11.1, R3).
func TestTwoProcessors(t *testing.T) {
	a, s := plain(t, "92010800 9200 0801")
	b, err := cpu.New(s)
	check(t, err == api.OK && b != a, "another processor", err)
	c, other := plain(t, "92020800")
	b.Load(api.PSW{Addr: 260})
	b.Raise(api.ClassExternal, 3)
	b.SetRegs(api.Regs{1: 1})
	check(t, a.PSW().Addr == 256 && len(a.Pending(api.ClassExternal)) == 0 && a.Regs() == api.Regs{}, "two processors share something")
	a.Step()
	c.Step()
	check(t, s.Bytes(0x800, 1)[0] == 1 && other.Bytes(0x800, 1)[0] == 2, "a storage that is not its own")
	s.Put(260, bytesOf("92030800"), 0)
	b.Step()
	check(t, s.Bytes(0x800, 1)[0] == 3 && a.Count() == 1 && b.Count() == 1, "the storage that both use", s.Bytes(0x800, 1))
}
