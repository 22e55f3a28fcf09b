package cpu_test

import (
	"bytes"
	"fmt"
	"math"
	"slices"
	"testing"

	"jobshop/api"
	"jobshop/cpu"
	"jobshop/store"
)

// setting is a processor and the model of it. Whatever is done is done to both, and everything that the processor shows is compared.
type setting struct {
	t *testing.T
	model
	c *cpu.CPU
	s *store.Store
}

// The addresses of the instructions that follow interruptions, one for each class.
const handlers = 0x400

// at is where most instructions stand.
const at = 0x200

// newSetting returns a setting with a block of storage for each of the numbers that stand for a key and fetch protection. No byte is 0 except where a new program status word has one, no register has what another one has, and each class has another new program status word, in the supervisor state, whose instruction is LR 0,0.
func newSetting(t *testing.T, numbers ...int) *setting {
	t.Helper()
	size := 2048 * len(numbers)
	s, err := store.New(size)
	if s == nil || err != api.OK {
		t.Fatalf("New of %d bytes = %v, %d", size, s, err)
	}
	twin, _ := store.New(size)
	c, err := cpu.New(s)
	if c == nil || err != api.OK {
		t.Fatalf("New = %v, %d", c, err)
	}
	x := &setting{t: t, c: c, s: s, model: model{twin: twin}}
	x.fill(0, pattern(size)...)
	for class := range lines {
		p := handler(class)
		x.renew(class, textOf(p))
		x.put(p.Addr, "18000000")
	}
	for block, n := range numbers {
		x.lock(block, n)
	}
	regs := api.Regs{}
	for n := range regs {
		regs[n] = uint32(n+1) * 0x0F1E2D3B
	}
	x.set(regs)
	x.load(api.PSW{Mask: 0, Key: 0, Code: 0x1234, ILC: 3, CC: 1, Prog: 5, Addr: at})
	return x
}

// handler returns the new program status word of a class.
func handler(class int) api.PSW {
	return api.PSW{Code: 0x1110 * class, ILC: class % 4, CC: 3 - class%4, Prog: class, Addr: handlers + 16*class}
}

// pattern returns n bytes that are not 0.
func pattern(n int) []byte {
	b := make([]byte, n)
	for k := range b {
		b[k] = byte((k*7+k/255)%255 + 1)
	}
	return b
}

// fill stores the bytes from addr on.
func (x *setting) fill(addr int, b ...byte) {
	x.t.Helper()
	one, other := x.s.Put(addr, b, 0), x.twin.Put(addr, b, 0)
	if one != 0 || other != 0 {
		x.t.Fatalf("Put at %d of %d bytes = %d, %d", addr, len(b), one, other)
	}
}

// put stores the bytes of the text from addr on.
func (x *setting) put(addr int, text string) {
	x.t.Helper()
	x.fill(addr, bytesOf(text)...)
}

// renew stores the new program status word of a class.
func (x *setting) renew(class int, text string) {
	x.t.Helper()
	x.put(lines[class].new, text)
}

// lock gives a block the key and the fetch protection for which the number stands.
func (x *setting) lock(block, number int) {
	x.t.Helper()
	if !x.s.SetKey(2048*block, number) || !x.twin.SetKey(2048*block, number) {
		x.t.Fatalf("SetKey of the block %d, %d is false", block, number)
	}
}

// set sets the registers.
func (x *setting) set(r api.Regs) {
	x.t.Helper()
	err := x.c.SetRegs(r)
	check(x.t, err == api.OK, "SetRegs", err)
	x.regs = r
	x.compare("SetRegs")
}

// load loads a program status word that is valid.
func (x *setting) load(p api.PSW) {
	x.t.Helper()
	err := x.c.Load(p)
	check(x.t, err == api.OK, "Load", p, err)
	x.psw, x.stopped, x.question = p, false, api.Event{}
	x.compare("Load")
}

// raise raises an interruption that is valid.
func (x *setting) raise(class, code int) {
	x.t.Helper()
	want := api.OK
	if len(x.pending) == 64 {
		want = api.ErrFull
	} else {
		x.pending = append(x.pending, raised{class, code})
	}
	err := x.c.Raise(class, code)
	check(x.t, err == want, "Raise", class, code, err)
	x.compare("Raise")
}

// answer answers with a valid condition code.
func (x *setting) answer(cc int) {
	x.t.Helper()
	want := api.ErrState
	if x.question != (api.Event{}) {
		want = api.OK
		x.question, x.psw.CC = api.Event{}, cc
	}
	err := x.c.Answer(cc)
	check(x.t, err == want, "Answer", cc, err)
	x.compare("Answer")
}

// step performs a step, compares everything with the model, and returns the event.
func (x *setting) step() api.Event {
	x.t.Helper()
	before := x.show()
	want := x.model.step()
	got := x.c.Step()
	if got != want {
		x.t.Errorf("%s: event %+v, want %+v", before, got, want)
	}
	x.compare(before)
	return got
}

// steps performs steps whose events are to be as given.
func (x *setting) steps(want ...api.Event) {
	x.t.Helper()
	for k, e := range want {
		if got := x.step(); got != e {
			x.t.Errorf("step %d: event %+v, want %+v", k, got, e)
		}
	}
}

// compare compares what every method returns, and all of storage, with the model.
func (x *setting) compare(about string) {
	x.t.Helper()
	if got := x.c.Regs(); got != x.regs {
		x.t.Errorf("%s: registers %08X, want %08X", about, got, x.regs)
	}
	if got := x.c.PSW(); got != x.psw {
		x.t.Errorf("%s: program status word %+v, want %+v", about, got, x.psw)
	}
	if got := x.c.Count(); got != x.count {
		x.t.Errorf("%s: count %d, want %d", about, got, x.count)
	}
	if got := x.c.Stopped(); got != x.stopped {
		x.t.Errorf("%s: stopped %v, want %v", about, got, x.stopped)
	}
	for class := -1; class < 8; class++ {
		if got, want := x.c.Pending(class), x.codes(class); !slices.Equal(got, want) {
			x.t.Errorf("%s: pending of class %d %v, want %v", about, class, got, want)
		}
	}
	x.compareStorage(about)
}

// codes returns the codes of the pending interruptions of a class.
func (m *model) codes(class int) []int {
	var all []int
	for _, r := range m.pending {
		if r.class == class {
			all = append(all, r.code)
		}
	}
	return all
}

// compareStorage compares every byte and every key.
func (x *setting) compareStorage(about string) {
	x.t.Helper()
	size := x.twin.Size()
	got, want := x.s.Bytes(0, size), x.twin.Bytes(0, size)
	if x.s.Size() != size || len(got) != size {
		x.t.Fatalf("%s: a storage of %d bytes, want %d", about, x.s.Size(), size)
	}
	if !bytes.Equal(got, want) {
		k := 0
		for got[k] == want[k] {
			k++
		}
		x.t.Errorf("%s: the byte at %d is %02X, want %02X", about, k, got[k], want[k])
	}
	for k := 0; k < size; k += 2048 {
		one, _ := x.s.KeyOf(k)
		other, _ := x.twin.KeyOf(k)
		if one != other {
			x.t.Errorf("%s: the block at %d has the number %d, want %d", about, k, one, other)
		}
	}
}

// show shows the state before a step.
func (x *setting) show() string {
	p := x.psw
	return fmt.Sprintf("% X at %X, program status word %+v, registers %08X, pending %v, question %+v, stopped %v", x.s.Bytes(p.Addr, 6), p.Addr, p, x.regs, x.pending, x.question, x.stopped)
}

// run executes the instruction with the digits at the address of the current program status word, which is loaded again after it, and returns the event and the program status word that the step left.
func (x *setting) run(text string) (api.Event, api.PSW) {
	x.t.Helper()
	p := x.psw
	x.put(p.Addr, text)
	e := x.step()
	left := x.c.PSW()
	x.load(p)
	return e, left
}

// fails executes an instruction that is to result in the program interruption code, and to have no effect but that.
func (x *setting) fails(text string, code int) {
	x.t.Helper()
	x.put(x.psw.Addr, text)
	p, r, keys, b := x.psw, x.regs, x.keys(), x.s.Bytes(0, x.s.Size())
	if e := x.step(); e != programEvent(code) {
		x.t.Errorf("%s: event %+v, want code %d", text, e, code)
	}
	old := x.s.Bytes(40, 8)
	p.Code, p.ILC, p.Addr = code, len(bytesOf(text))/2, p.Addr+len(bytesOf(text))
	if !bytes.Equal(old, bytesOf(textOf(p))) {
		x.t.Errorf("%s: old program status word % X, want %s", text, old, textOf(p))
	}
	b = slices.Concat(b[:40], old, b[48:])
	check(x.t, x.c.Regs() == r && slices.Equal(x.keys(), keys) && bytes.Equal(x.s.Bytes(0, len(b)), b), "something changed by", text)
	p.Code, p.Addr = 0x1234, p.Addr-len(bytesOf(text))
	x.load(p)
}

// keys returns the numbers of the blocks.
func (x *setting) keys() []int {
	var all []int
	for k := 0; k < x.s.Size(); k += 2048 {
		n, _ := x.s.KeyOf(k)
		all = append(all, n)
	}
	return all
}

// programEvent returns the event of a program interruption, or of an instruction without one.
func programEvent(code int) api.Event {
	if code == 0 {
		return api.Event{}
	}
	return api.Event{Kind: api.EvIntr, Class: api.ClassProgram, Code: code}
}

// intr returns the event of an interruption.
func intr(class, code int) api.Event {
	return api.Event{Kind: api.EvIntr, Class: class, Code: code}
}

// waits is the event of a step that does nothing.
var waits = api.Event{Kind: api.EvWait}

// check fails the test unless the condition holds.
func check(t *testing.T, condition bool, about string, values ...any) {
	t.Helper()
	if !condition {
		t.Error(append([]any{about}, values...)...)
	}
}

// far are numbers that no field, class or code can have.
func far() []int {
	return []int{math.MinInt, math.MinInt + 1, math.MinInt32, -1 << 32, -65536, -4096, -256, -16, -2, -1, 1 << 24, 1<<24 + 1, math.MaxInt32, 1 << 32, 1<<32 + 1, 1 << 62, math.MaxInt - 1, math.MaxInt}
}

// numbersFrom returns a function that returns pseudo-random numbers from 0 to n - 1.
func numbersFrom(seed uint64) func(n int) int {
	return func(n int) int {
		seed = seed*6364136223846793005 + 1442695040888963407
		return int(seed>>33) % n
	}
}
