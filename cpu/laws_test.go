package cpu_test

import (
	"bytes"
	"fmt"
	"slices"
	"strings"
	"testing"

	"jobshop/api"
	"jobshop/cpu"
	"jobshop/store"
)

// codes are the operation codes of all instructions.
func codes() []string {
	all := slices.Concat(strings.Fields(generals), strings.Fields(decimals))
	for code := range named {
		all = append(all, code)
	}
	slices.Sort(all)
	return all
}

// somewhere returns an address, most of them near an edge of three blocks or in low storage.
func somewhere(next func(n int) int) int {
	switch next(12) {
	case 0:
		return 1<<24 - 1 - next(20)
	case 1:
		return next(size)
	case 2:
		return 16 * next(size/16)
	case 3:
		return 24 + next(104)
	}
	return max(0, next(4)*2048+next(61)-40)
}

// scatter gives the registers addresses, small numbers and others.
func (x *setting) scatter(next func(n int) int) {
	r := api.Regs{}
	for n := range r {
		switch next(4) {
		case 0:
			r[n] = uint32(next(1<<31)*2 + next(2))
		case 1:
			r[n] = uint32(next(64))
		default:
			r[n] = uint32(somewhere(next)) | uint32(next(2)*next(256))<<24
		}
	}
	x.set(r)
}

// some returns the digits of an instruction with the code. Half of the displacements are below 256.
func some(next func(n int) int, code string) string {
	text := code
	for len(text) < 2*sizeOf(code) {
		text += fmt.Sprintf("%02X", next(256))
	}
	for _, k := range []int{5, 9} {
		if k < len(text) && next(2) == 0 {
			text = text[:k] + "0" + text[k+1:]
		}
	}
	return text
}

// status returns a program status word with the key 3 or another one; the address is that of the next instruction.
func status(next func(n int) int, addr int) api.PSW {
	return api.PSW{
		Mask: next(256) * next(2), Key: []int{0, 3, 3, 3, 5, next(16)}[next(6)], Machine: next(2) == 0, Wait: next(12) == 0, Problem: next(2) == 0,
		Code: next(65536), ILC: next(4), CC: next(4), Prog: next(16), Addr: addr,
	}
}

// evenly returns an even address in storage.
func evenly(next func(n int) int) int {
	return []int{2 * next(size/2), 2046, 2044, size - 2, size - 6, 0x200 + 2*next(64)}[next(6)]
}

// relock gives the blocks of a setting keys of which most are 3.
func (x *setting) relock(next func(n int) int) {
	for block := range 3 {
		x.lock(block, []int{6, 6, 6, 7, 10, 11, 1}[next(7)])
	}
}

// renewAll gives each class a new program status word, few of which are not valid.
func (x *setting) renewAll(next func(n int) int) {
	for class := 1; class <= 5; class++ {
		text := textOf(status(next, evenly(next)))
		if next(40) == 0 {
			text = text[:3] + "8" + text[4:]
		}
		x.renew(class, text)
	}
}

// TestSequences has long sequences of steps, raises, answers, loads, and changes of storage and keys, after each of which everything is compared.
func TestSequences(t *testing.T) {
	next := numbersFrom(11)
	everything := codes()
	kinds := map[string]int{}
	for range 60 {
		x := newSetting(t, 6, 7, 10)
		x.relock(next)
		for range 400 {
			x.disturb(next)
			if p := x.psw; p.Addr+6 <= size && next(8) > 0 {
				code := everything[next(len(everything))]
				if next(2) == 0 {
					code = processors(next)
				}
				x.put(p.Addr, some(next, code))
			}
			e := x.step()
			kinds[fmt.Sprintf("%d%d", e.Kind, e.Class)]++
			if e == waits {
				x.release(next)
			}
		}
	}
	for kind, least := range map[string]int{"00": 1500, "11": 500, "12": 200, "13": 2000, "14": 500, "15": 500, "20": 500, "30": 100, "40": 100, "50": 100, "60": 100} {
		check(t, kinds[kind] > least, "events of the kind", kind, kinds[kind])
	}
}

// processors returns one of the codes that the processor executes by itself.
func processors(next func(n int) int) string {
	return []string{"44", "44", "44", "08", "09", "0A", "80", "82", "9C", "9D", "9E", "9F"}[next(12)]
}

// disturb does one of the things that may happen between two steps.
func (x *setting) disturb(next func(n int) int) {
	switch next(12) {
	case 0:
		x.raise(api.ClassExternal, next(65536))
	case 1:
		x.raise(api.ClassIO, next(1024))
	case 2:
		x.raise(api.ClassMachine, next(65536))
	case 3, 4:
		x.answer(next(4))
	case 5:
		x.load(status(next, evenly(next)))
	case 6:
		x.scatter(next)
	case 7:
		x.renewAll(next)
	case 8:
		x.relock(next)
	case 9:
		x.put(0x300, some(next, processors(next)))
	}
}

// release has a processor that waits go on.
func (x *setting) release(next func(n int) int) {
	if next(4) == 0 {
		x.load(status(next, evenly(next)))
	}
}

// shown is everything that a processor shows, apart from its storage.
func shown(c *cpu.CPU) string {
	return fmt.Sprint(c.Regs(), c.PSW(), c.Count(), c.Stopped(), c.Pending(1), c.Pending(4), c.Pending(5))
}

// TestProtection is P11.6, without the model: in the problem state and with a key other than 0, a step changes only what it may change.
func TestProtection(t *testing.T) {
	next := numbersFrom(3)
	all := codes()
	changes, refused := 0, 0
	for range 300 {
		x := newSetting(t, 0, 0, 0)
		x.relock(next)
		for _, code := range all {
			x.scatter(next)
			p := status(next, evenly(next))
			p.Problem, p.Wait, p.Key = true, false, 1+next(6)
			x.put(p.Addr, some(next, code)[:2*min(sizeOf(code), size-p.Addr)])
			if next(3) == 0 {
				x.raise(api.ClassExternal, next(256))
			}
			x.load(p)
			before, keys := x.s.Bytes(0, size), x.keys()
			e := x.c.Step()
			after := x.s.Bytes(0, size)
			check(t, slices.Equal(x.keys(), keys), "a key changed by", code, x.keys())
			if e.Code == 4 {
				refused++
			}
			changes += x.checkChanges(before, after, p.Key)
			x.model.step()
			x.compare("a step in the problem state")
		}
	}
	check(t, changes > 500 && refused > 500, "changes of own blocks, and protection", changes, refused)
}

// checkChanges checks that storage changed only in blocks with the key and from 24 to 63, and returns the number of changes in blocks.
func (x *setting) checkChanges(before, after []byte, key int) int {
	x.t.Helper()
	changes := 0
	for k := range before {
		if before[k] == after[k] || k >= 24 && k < 64 {
			continue
		}
		changes++
		if x.keys()[k/2048]/2 != key {
			x.t.Errorf("the byte at %d changed by a step with the key %d, blocks %v", k, key, x.keys())
			break
		}
	}
	return changes
}

// TestPrivilege is P11.7, without the model: a privileged instruction in the problem state changes nothing else.
func TestPrivilege(t *testing.T) {
	next := numbersFrom(5)
	for code, name := range named {
		if !isOneOf(name, privileged) {
			continue
		}
		for range 300 {
			x := newSetting(t, 0, 0, 0)
			x.relock(next)
			x.scatter(next)
			p := status(next, at)
			p.Problem, p.Wait, p.Key = true, false, []int{0, x.keys()[0] / 2}[next(2)]
			x.put(at, some(next, code))
			x.load(p)
			before, keys := x.s.Bytes(0, size), x.keys()
			e := x.c.Step()
			after := x.s.Bytes(0, size)
			p.Code, p.ILC, p.Addr = 2, sizeOf(code)/2, at+sizeOf(code)
			check(t, e == programEvent(2) && x.c.PSW() == handler(api.ClassProgram), name, e, x.c.PSW())
			check(t, bytes.Equal(after[40:48], bytesOf(textOf(p))), name, "old program status word", after[40:48])
			check(t, bytes.Equal(after, slices.Concat(before[:40], after[40:48], before[48:])), "storage changed by", name)
			check(t, x.c.Regs() == x.regs && slices.Equal(x.keys(), keys) && x.c.Count() == 1, "something changed by", name)
			check(t, !x.c.Stopped() && x.c.Answer(1) == api.ErrState, "a question of", name)
		}
	}
}

// Where TestExecuteIsTheSame has an instruction by itself, and an EX. Its target is at aim.
const (
	itself  = 0x220
	execute = 0x240
)

// TestExecuteIsTheSame is P11.8, without the model: an instruction by itself with the second byte that EX would make, and by EX. Both processors have the same storage, registers and masks.
func TestExecuteIsTheSame(t *testing.T) {
	next := numbersFrom(8)
	events := map[string]int{}
	for _, code := range codes() {
		if isOneOf(code, "05 45 44") {
			continue
		}
		for range 60 {
			x := newSetting(t, 0, 0, 0)
			x.relock(next)
			x.scatter(next)
			text, r1 := some(next, code), next(2)*(1+next(15))
			second := value(text[2:4])
			if r1 != 0 {
				second |= int(x.regs[r1] % 256)
			}
			x.put(itself, text[:2]+fmt.Sprintf("%02X", second)+text[4:])
			x.put(execute, fmt.Sprintf("44%X00300", r1))
			x.put(aim, text)
			x.psw = status(next, itself)
			x.psw.Wait = false
			events[fmt.Sprint(x.sameEffect(code).Class)]++
		}
	}
	for class, least := range map[string]int{"0": 1500, "2": 30, "3": 1500} {
		check(t, events[class] > least, "events of the class", class, events[class])
	}
}

// sameEffect performs the step of the instruction by itself, and that of the EX, on copies of the storage, compares the effects, and returns the event.
func (x *setting) sameEffect(code string) api.Event {
	x.t.Helper()
	start := func(addr int) (*cpu.CPU, *store.Store) {
		s := x.s.Copy()
		c, _ := cpu.New(s)
		c.SetRegs(x.regs)
		x.psw.Addr = addr
		c.Load(x.psw)
		return c, s
	}
	a, s := start(itself)
	b, q := start(execute)
	e, f := a.Step(), b.Step()
	check(x.t, e == f && a.Count() == b.Count() && a.Stopped() == b.Stopped(), "another event of EX of", code, e, f)
	check(x.t, a.Regs() == b.Regs(), "other registers after EX of", code, a.Regs(), b.Regs())
	check(x.t, a.PSW().CC == b.PSW().CC && a.PSW().Mask == b.PSW().Mask && a.PSW().Prog == b.PSW().Prog, "other codes or masks after EX of", code)
	next := a.PSW().Addr == itself+sizeOf(code) && b.PSW().Addr == execute+4
	check(x.t, next || a.PSW().Addr == b.PSW().Addr, "another address after EX of", code, a.PSW(), b.PSW())
	for block := range 3 {
		one, _ := s.KeyOf(2048 * block)
		other, _ := q.KeyOf(2048 * block)
		check(x.t, one == other, "another key after EX of", code)
	}
	check(x.t, bytes.Equal(s.Bytes(0, 32), q.Bytes(0, 32)) && bytes.Equal(s.Bytes(48, size-48), q.Bytes(48, size-48)), "another storage after EX of", code)
	return e
}

// TestEveryInterruption is P11.9, without the model: every interruption is taken exactly once, in the order of its class and of the raising of those that are admitted.
func TestEveryInterruption(t *testing.T) {
	next := numbersFrom(21)
	for range 60 {
		x := newSetting(t, 0)
		for class := range lines {
			x.renew(class, textOf(api.PSW{Mask: 255, Machine: true, Addr: at}))
		}
		x.put(at, "47F00200")
		x.load(api.PSW{Mask: 255, Machine: true, Addr: at})
		var in, out []raised
		for range 400 {
			if next(2) == 0 && len(in)-len(out) < 64 {
				r := raised{[]int{api.ClassExternal, api.ClassMachine, api.ClassIO}[next(3)], next(1024)}
				check(t, x.c.Raise(r.class, r.code) == api.OK, "Raise", r)
				in = append(in, r)
			}
			if e := x.c.Step(); e.Kind == api.EvIntr {
				out = append(out, raised{e.Class, e.Code})
			}
		}
		for range 65 {
			if e := x.c.Step(); e.Kind == api.EvIntr {
				out = append(out, raised{e.Class, e.Code})
			}
		}
		for _, class := range []int{api.ClassExternal, api.ClassMachine, api.ClassIO} {
			check(t, slices.Equal(of(in, class), of(out, class)), "interruptions of the class", class)
			check(t, len(x.c.Pending(class)) == 0, "pending at last", class)
		}
	}
}

// of returns the codes of a class.
func of(all []raised, class int) []int {
	m := model{pending: all}
	return m.codes(class)
}

// TestWaiting is P11.10, without the model: a step with the event EvWait changes nothing.
func TestWaiting(t *testing.T) {
	next := numbersFrom(14)
	found := 0
	for range 400 {
		x := newSetting(t, 6, 7, 10)
		x.renewAll(next)
		x.scatter(next)
		p := status(next, evenly(next))
		p.Wait = next(3) > 0
		x.load(p)
		for range next(5) {
			x.raise(api.ClassIO, next(1024))
		}
		if next(2) == 0 {
			x.renew(api.ClassMachine, "FFFFFFFFFFFFFFFF")
			x.raise(api.ClassMachine, 1)
		}
		for range 8 {
			before, b, keys := shown(x.c), x.s.Bytes(0, size), x.keys()
			if x.c.Step() == waits {
				found++
				check(t, shown(x.c) == before && slices.Equal(x.keys(), keys) && bytes.Equal(x.s.Bytes(0, size), b), "EvWait changed something", before, shown(x.c))
			}
		}
	}
	check(t, found > 500, "steps that wait", found)
}

// TestSameAgain has the same done twice: the results are the same (R4).
func TestSameAgain(t *testing.T) {
	trace := func() string {
		next := numbersFrom(77)
		s, _ := store.New(size)
		s.Put(0, pattern(size), 0)
		c, _ := cpu.New(s)
		all := codes()
		text := ""
		for range 300 {
			addr := evenly(next)
			s.Put(addr, bytesOf(some(next, all[next(len(all))])), 0)
			c.Raise(api.ClassIO, next(1024))
			c.Load(status(next, addr))
			text += fmt.Sprint(c.Step(), shown(c))
		}
		return text + fmt.Sprint(s.Bytes(0, size))
	}
	check(t, trace() == trace(), "another result of the same")
}
