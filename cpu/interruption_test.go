package cpu_test

import (
	"fmt"
	"slices"
	"testing"

	"jobshop/api"
)

// TestTaken takes an interruption of each class from program status words of all kinds: the old one has its code, the current one is the new one.
func TestTaken(t *testing.T) {
	x := newSetting(t, 0)
	for _, p := range statuses() {
		for _, class := range []int{api.ClassExternal, api.ClassMachine, api.ClassIO} {
			for _, code := range []int{0, 1, 255, 256, 1023} {
				x.oneTaken(p, class, code)
			}
		}
	}
}

// oneTaken raises an interruption and takes it, if p admits it.
func (x *setting) oneTaken(p api.PSW, class, code int) {
	x.t.Helper()
	x.load(p)
	x.raise(class, code)
	open := map[int]bool{api.ClassExternal: p.Mask&1 != 0, api.ClassMachine: p.Machine, api.ClassIO: p.Mask&(0x80>>(code/256)) != 0}
	if !open[class] {
		x.load(api.PSW{Mask: 255, Machine: true})
		x.steps(intr(class, code))
		return
	}
	x.steps(intr(class, code))
	p.Code = code
	old := map[int]int{api.ClassExternal: 24, api.ClassMachine: 48, api.ClassIO: 56}[class]
	check(x.t, x.digitsAt(old, 8) == textOf(p), "old program status word", x.digitsAt(old, 8), "want", textOf(p))
	check(x.t, x.c.PSW() == handler(class) && len(x.c.Pending(class)) == 0, "new program status word", x.c.PSW())
}

// TestNewStatus has new program status words with every field at its ends, and with each bit alone, for each class.
func TestNewStatus(t *testing.T) {
	x := newSetting(t, 0)
	start := api.PSW{Mask: 255, Machine: true, Code: 9, CC: 3, Addr: at}
	for class := range lines {
		for bit := range 64 {
			b := make([]byte, 8)
			b[bit/8] = 0x80 >> (bit % 8)
			x.newStatus(start, class, fmt.Sprintf("%X", b), bit != 12)
		}
		for _, p := range statuses() {
			x.newStatus(start, class, textOf(p), true)
		}
		x.newStatus(start, class, "FFFFFFFFFFFFFFFF", false)
		x.newStatus(start, class, "FFF7FFFFFFFFFFFF", true)
		x.renew(class, textOf(handler(class)))
	}
}

// newStatus takes an interruption of a class with the new program status word; if that is not valid, the processor stops with the one that it had.
func (x *setting) newStatus(start api.PSW, class int, text string, valid bool) {
	x.t.Helper()
	x.renew(class, text)
	x.load(start)
	left := start
	switch class {
	case api.ClassProgram:
		x.put(at, "1C10")
		left.Addr, left.ILC = at+2, 1
	case api.ClassSvc:
		x.put(at, "0A77")
		left.Addr, left.ILC = at+2, 1
	default:
		x.raise(class, 77)
	}
	e := x.step()
	check(x.t, e.Kind == api.EvIntr && e.Class == class && x.c.Stopped() == !valid, text, e, x.c.Stopped())
	if !valid {
		check(x.t, x.c.PSW() == left, "program status word of a stopped processor", x.c.PSW())
		x.steps(waits, waits)
		return
	}
	check(x.t, textOf(x.c.PSW()) == text, "new program status word", x.c.PSW(), "want", text)
}

// TestKeysDoNotMatter takes an interruption of each class with each key, where the first block has another one and is fetch-protected.
func TestKeysDoNotMatter(t *testing.T) {
	for class := range lines {
		for key := range 16 {
			x := newSetting(t, 0, 2*key)
			for _, number := range []int{1, 2*((key+1)%16) + 1, 30, 31} {
				x.lock(0, number)
				x.load(api.PSW{Mask: 255, Key: key, Machine: true, Problem: true, Addr: 2048})
				x.put(2048, map[int]string{api.ClassProgram: "0000", api.ClassSvc: "0A01"}[class])
				if class != api.ClassProgram && class != api.ClassSvc {
					x.raise(class, 1)
				}
				e := x.step()
				check(t, e == intr(class, 1) && x.c.PSW() == handler(class), "key", key, "class", class, e)
			}
		}
	}
}

// TestOrder raises up to three interruptions of all classes in all orders: a machine interruption is taken first, then an external one, then an I/O interruption.
func TestOrder(t *testing.T) {
	classes := []int{api.ClassExternal, api.ClassMachine, api.ClassIO}
	for k := range 27 {
		x := newSetting(t, 0)
		for _, class := range classes {
			p := handler(class)
			p.Mask, p.Machine = 255, true
			x.renew(class, textOf(p))
		}
		x.load(api.PSW{Mask: 255, Machine: true, Addr: at})
		counts := map[int]int{}
		var all []raised
		for n, class := range []int{classes[k%3], classes[k/3%3], classes[k/9]} {
			x.raise(class, 100+n)
			counts[class]++
			all = append(all, raised{class, 100 + n})
		}
		for _, class := range []int{api.ClassMachine, api.ClassExternal, api.ClassIO} {
			for _, r := range all {
				if r.class == class {
					x.steps(intr(class, r.code))
				}
			}
		}
		x.steps(api.Event{})
	}
}

// TestMasks raises an interruption of each channel, an external one and one of the machine, and has each mask admit some of them: those are taken, the others remain.
func TestMasks(t *testing.T) {
	for mask := range 256 {
		for _, machine := range []bool{false, true} {
			x := newSetting(t, 0)
			p := api.PSW{Mask: mask, Machine: machine, Addr: at}
			x.put(at, "1800")
			for class := range lines {
				x.renew(class, textOf(p))
			}
			x.load(p)
			var want []api.Event
			if machine {
				want = append(want, intr(api.ClassMachine, 1))
			}
			if mask%2 == 1 {
				want = append(want, intr(api.ClassExternal, 2))
			}
			for channel := range 4 {
				if mask>>(7-channel)%2 == 1 {
					want = append(want, intr(api.ClassIO, 256*channel+3))
				}
				x.raise(api.ClassIO, 256*channel+3)
			}
			x.raise(api.ClassExternal, 2)
			x.raise(api.ClassMachine, 1)
			x.steps(append(want, api.Event{})...)
			left := len(x.c.Pending(api.ClassIO)) + len(x.c.Pending(api.ClassExternal)) + len(x.c.Pending(api.ClassMachine))
			check(t, left == 6-len(want), "pending ones that remain", left)
		}
	}
}

// TestChannels has the codes at both ends of each channel, with the mask of each.
func TestChannels(t *testing.T) {
	for channel := range 4 {
		for bit := range 8 {
			for _, code := range []int{256 * channel, 256*channel + 1, 256*channel + 254, 256*channel + 255} {
				x := newSetting(t, 0)
				x.put(at, "1800")
				x.load(api.PSW{Mask: 0x80 >> bit, Addr: at})
				x.raise(api.ClassIO, code)
				want := api.Event{}
				if bit == channel {
					want = intr(api.ClassIO, code)
				}
				x.steps(want)
			}
		}
	}
}

// TestBetween has interruptions that are not admitted before, between and behind those that are, of one class and of several.
func TestBetween(t *testing.T) {
	x := newSetting(t, 0)
	p := handler(api.ClassIO)
	p.Mask = 0x20
	x.renew(api.ClassIO, textOf(p))
	x.load(api.PSW{Mask: 0x20, Addr: at})
	for _, r := range []raised{{api.ClassIO, 1}, {api.ClassMachine, 9}, {api.ClassIO, 513}, {api.ClassIO, 300}, {api.ClassExternal, 8}, {api.ClassIO, 512}, {api.ClassIO, 2}, {api.ClassIO, 513}, {api.ClassIO, 1000}} {
		x.raise(r.class, r.code)
	}
	x.steps(intr(api.ClassIO, 513), intr(api.ClassIO, 512), intr(api.ClassIO, 513), api.Event{})
	check(t, slices.Equal(x.c.Pending(api.ClassIO), []int{1, 300, 2, 1000}), "pending ones that remain", x.c.Pending(api.ClassIO))
	p.Mask = 0xC0
	x.renew(api.ClassIO, textOf(p))
	x.load(p)
	x.steps(intr(api.ClassIO, 1), intr(api.ClassIO, 300), intr(api.ClassIO, 2), api.Event{})
	check(t, slices.Equal(x.c.Pending(api.ClassIO), []int{1000}), "the last one that remains", x.c.Pending(api.ClassIO))
}

// TestRaise has Raise of every class with codes at both ends and beside them (P11.4).
func TestRaise(t *testing.T) {
	limits := map[int]int{api.ClassExternal: 65536, api.ClassMachine: 65536, api.ClassIO: 1024}
	for _, class := range append(far(), 0, 1, 2, 3, 4, 5, 6, 7, 8, 16, 255) {
		x := newSetting(t, 0)
		for _, code := range append(far(), 0, 1, 2, 11, 12, 255, 256, 767, 768, 1022, 1023, 1024, 1025, 2047, 65534, 65535, 65536, 65537) {
			if code >= 0 && code < limits[class] {
				x.raise(class, code)
				continue
			}
			err := x.c.Raise(class, code)
			check(t, err == api.ErrArg, "Raise of", class, code, err)
			x.compare("Raise that is refused")
		}
	}
}

// TestFull raises 64 interruptions and one more, of one class and of several: ErrArg comes before ErrFull, and there is room again when one was taken (P11.4).
func TestFull(t *testing.T) {
	for _, classes := range [][]int{{api.ClassExternal}, {api.ClassMachine}, {api.ClassIO}, {api.ClassExternal, api.ClassMachine, api.ClassIO}} {
		x := newSetting(t, 0)
		for k := range 64 {
			err := x.c.Raise(classes[k%len(classes)], 3*k)
			check(t, err == api.OK, "Raise", k, err)
			x.pending = append(x.pending, raised{classes[k%len(classes)], 3 * k})
		}
		x.compare("64 pending ones")
		for _, class := range []int{api.ClassExternal, api.ClassMachine, api.ClassIO} {
			for range 3 {
				err := x.c.Raise(class, 1)
				check(t, err == api.ErrFull, "Raise of one more", class, err)
			}
			one, other := x.c.Raise(class, -1), x.c.Raise(class, 65536)
			check(t, one == api.ErrArg && other == api.ErrArg, "Raise of one more that is not valid", one, other)
		}
		x.compare("one more")
		x.load(api.PSW{Mask: 255, Machine: true})
		x.step()
		x.raise(classes[0], 1)
		err := x.c.Raise(classes[0], 1)
		check(t, err == api.ErrFull, "Raise of one more again", err)
		x.drain(64)
	}
}

// drain takes n interruptions, loading a program status word that admits all before each step.
func (x *setting) drain(n int) {
	x.t.Helper()
	for k := range n {
		x.load(api.PSW{Mask: 255, Machine: true, Wait: true})
		e := x.step()
		check(x.t, e.Kind == api.EvIntr, "interruption", k, e)
	}
	x.load(api.PSW{Mask: 255, Machine: true, Wait: true})
	x.steps(waits)
}

// TestSame raises interruptions that are equal: each is taken (P11.9).
func TestSame(t *testing.T) {
	x := newSetting(t, 0)
	for range 3 {
		x.raise(api.ClassIO, 4)
		x.raise(api.ClassMachine, 4)
		x.raise(api.ClassExternal, 4)
		x.raise(api.ClassExternal, 4)
	}
	x.drain(12)
}

// TestWakes has an interruption end waiting, from a program status word that waits to one that does not.
func TestWakes(t *testing.T) {
	x := newSetting(t, 0)
	x.load(api.PSW{Mask: 1, Wait: true, Addr: at})
	x.steps(waits, waits)
	x.raise(api.ClassIO, 5)
	x.steps(waits)
	x.raise(api.ClassExternal, 6)
	x.steps(intr(api.ClassExternal, 6), api.Event{}, programEvent(1))
	check(t, x.digitsAt(24, 8) == "0102000600000200", "old program status word", x.digitsAt(24, 8))
}

// TestPendingIsNew has the result of Pending changed and extended by its caller (R3).
func TestPendingIsNew(t *testing.T) {
	x := newSetting(t, 0)
	for k := range 5 {
		x.raise(api.ClassExternal, k)
		x.raise(api.ClassIO, k)
	}
	one, other := x.c.Pending(api.ClassExternal), x.c.Pending(api.ClassExternal)
	one[0], one[4] = 99, 99
	_ = append(one[:2], 77, 78, 79, 80)
	check(t, slices.Equal(other, []int{0, 1, 2, 3, 4}), "another result changed", other)
	x.compare("a result that was changed")
	x.load(api.PSW{Mask: 255})
	x.step()
	check(t, slices.Equal(other, []int{0, 1, 2, 3, 4}), "a result changed with the list", other)
}

// TestProgramCodes has codes of program interruptions, from instructions of all kinds, without any bit of the masks.
func TestProgramCodes(t *testing.T) {
	x := newSetting(t, 0)
	x.give(0, 1)
	x.put(0x300, "00 00 00 00 00 00 12 34 00 00 00 00 00 00 12 3C 00 0C")
	x.load(api.PSW{Code: 0x1234, Addr: at})
	for code, text := range map[int]string{1: "0000", 3: "44000200", 5: "58F00FFC", 6: "1C10", 7: "4F100300", 9: "1D00", 11: "FD7103080310"} {
		x.fails(text, code)
	}
	x.load(api.PSW{Problem: true, Code: 0x1234, Addr: at})
	x.fails("80000300", 2)
	x.lock(0, 6)
	x.load(api.PSW{Key: 5, Code: 0x1234, Addr: at})
	x.fails("92000300", 4)
}

// TestNested has an interruption in each handler: each class keeps its own old program status word.
func TestNested(t *testing.T) {
	x := newSetting(t, 0)
	p := handler(api.ClassSvc)
	p.Mask = 1
	x.renew(api.ClassSvc, textOf(p))
	q := handler(api.ClassExternal)
	q.Machine = true
	x.renew(api.ClassExternal, textOf(q))
	x.put(handler(api.ClassMachine).Addr, "0000")
	x.put(handler(api.ClassProgram).Addr, "82000030")
	x.put(at, "0A31")
	x.raise(api.ClassMachine, 0x8000)
	x.raise(api.ClassExternal, 0xFFFF)
	x.steps(intr(api.ClassSvc, 0x31), intr(api.ClassExternal, 0xFFFF), intr(api.ClassMachine, 0x8000), programEvent(1), api.Event{})
	check(t, x.digitsAt(32, 8) == "0000003155000202", "old SVC", x.digitsAt(32, 8))
	p.Code = 0xFFFF
	check(t, x.digitsAt(24, 8) == textOf(p), "old external", x.digitsAt(24, 8))
	q.Code = 0x8000
	check(t, x.digitsAt(48, 8) == textOf(q) && x.c.PSW() == q, "old machine", x.digitsAt(48, 8), x.c.PSW())
}
