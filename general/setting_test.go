package general_test

import (
	"bytes"
	"fmt"
	"math"
	"slices"
	"testing"

	"jobshop/api"
	"jobshop/general"
	"jobshop/store"
)

// setting is the state in which instructions are executed, for the model and as a storage.
type setting struct {
	t *testing.T
	model
	s *store.Store
}

// newSetting returns a setting with a block of storage for each of the numbers that stand for a key and fetch protection. No byte is 0, and neighbours differ; no register has what another one has, and the pair of register 2 can be divided by any word of storage.
func newSetting(t *testing.T, numbers ...int) *setting {
	t.Helper()
	size := 2048 * len(numbers)
	s, err := store.New(size)
	if s == nil || err != api.OK {
		t.Fatalf("New of %d bytes = %v, %d", size, s, err)
	}
	c := &setting{t: t, s: s, model: model{values: make([]byte, size), numbers: make([]byte, size)}}
	for n := range c.regs {
		c.regs[n] = uint32(n+1) * 0x0F1E2D3B
	}
	c.regs[2] = 0x12345
	c.psw = api.PSW{Mask: 0xA5, Machine: true, Problem: true, Code: 0x1234, ILC: 2, CC: 1, Prog: 6, Addr: 0xABCDE0}
	c.fill(0, pattern(size)...)
	for block, n := range numbers {
		c.lock(block, n)
	}
	return c
}

// pattern returns n bytes that are not 0.
func pattern(n int) []byte {
	b := make([]byte, n)
	for k := range b {
		b[k] = byte((k*7+k/255)%255 + 1)
	}
	return b
}

// fill stores the bytes from addr on.
func (c *setting) fill(addr int, b ...byte) {
	c.t.Helper()
	if code := c.s.Put(addr, b, 0); code != 0 {
		c.t.Fatalf("Put at %d of %d bytes = %d", addr, len(b), code)
	}
	copy(c.values[addr:], b)
}

// fillWord stores a word at addr.
func (c *setting) fillWord(addr int, v uint32) {
	c.t.Helper()
	c.fill(addr, byte(v>>24), byte(v>>16), byte(v>>8), byte(v))
}

// lock gives a block the key and the fetch protection for which the number stands.
func (c *setting) lock(block, number int) {
	c.t.Helper()
	if !c.s.SetKey(2048*block, number) {
		c.t.Fatalf("SetKey of the block %d, %d is false", block, number)
	}
	for k := range 2048 {
		c.numbers[2048*block+k] = byte(number)
	}
}

// want returns what an instruction is to leave, and its code.
func (c *setting) want(i api.Ins) (model, int) {
	m := c.model
	m.values = slices.Clone(c.values)
	code := m.run(i)
	if code != 0 && code != 8 {
		return c.model, code
	}
	return m, code
}

// result is what an execution returned and left.
type result struct {
	regs api.Regs
	psw  api.PSW
	code int
	s    *store.Store
}

// exec executes the instruction, compares everything with the model, and returns what the execution returned and left. The setting remains.
func (c *setting) exec(i api.Ins) result {
	c.t.Helper()
	want, code := c.want(i)
	return c.expect(i, want, code)
}

// refuse executes an instruction that is to change nothing and to result in the code.
func (c *setting) refuse(i api.Ins, code int) {
	c.t.Helper()
	c.expect(i, c.model, code)
}

// expect executes the instruction and compares everything with want and the code.
func (c *setting) expect(i api.Ins, want model, code int) result {
	c.t.Helper()
	r := result{s: c.s.Copy()}
	r.regs, r.psw, r.code = general.Exec(i, c.regs, c.psw, r.s)
	if r.code != code {
		c.t.Errorf("%s: code %d, want %d", c.text(i), r.code, code)
	}
	for n := range want.regs {
		if r.regs[n] != want.regs[n] {
			c.t.Errorf("%s: register %d is %08X, want %08X", c.text(i), n, r.regs[n], want.regs[n])
		}
	}
	if r.psw != want.psw {
		c.t.Errorf("%s: program status word %+v, want %+v", c.text(i), r.psw, want.psw)
	}
	c.compareStorage(i, r.s, want)
	return r
}

// compareStorage compares all that the storage holds.
func (c *setting) compareStorage(i api.Ins, s *store.Store, want model) {
	c.t.Helper()
	b := s.Bytes(0, len(want.values))
	if s.Size() != len(want.values) || len(b) != len(want.values) {
		c.t.Fatalf("%s: a storage of %d bytes, want %d", c.text(i), s.Size(), len(want.values))
	}
	if !bytes.Equal(b, want.values) {
		at := 0
		for b[at] == want.values[at] {
			at++
		}
		c.t.Errorf("%s: the byte at %d is %02X, want %02X", c.text(i), at, b[at], want.values[at])
	}
	for at := 0; at < len(b); at += 2048 {
		if n, _ := s.KeyOf(at); n != int(want.numbers[at]) {
			c.t.Errorf("%s: the block at %d has the number %d, want %d", c.text(i), at, n, want.numbers[at])
		}
	}
}

// text shows an instruction with what it depends on.
func (c *setting) text(i api.Ins) string {
	return fmt.Sprintf("%s %+v, registers %08X, key %d, CC %d, program mask %d", named[i.Op], i, c.regs, c.psw.Key, c.psw.CC, c.psw.Prog)
}

// check fails the test unless the condition holds.
func check(t *testing.T, condition bool, about string, values ...any) {
	t.Helper()
	if !condition {
		t.Error(append([]any{about}, values...)...)
	}
}

// find returns the instruction with the mnemonic.
func find(name string) instruction {
	for _, in := range known {
		if in.name == name {
			return in
		}
	}
	panic(name)
}

// The following functions return instructions with the fields of their formats, in the order of the chapter on the instruction set.

func bare(name string) api.Ins {
	in := find(name)
	return api.Ins{Op: in.op, Form: in.form}
}

func rr(name string, r1, r2 int) api.Ins {
	i := bare(name)
	i.R1, i.R2 = r1, r2
	return i
}

func rx(name string, r1, x2, b2, d2 int) api.Ins {
	i := bare(name)
	i.R1, i.X2, i.B2, i.D2 = r1, x2, b2, d2
	return i
}

func rs(name string, r1, r2, b2, d2 int) api.Ins {
	i := bare(name)
	i.R1, i.R2, i.B2, i.D2 = r1, r2, b2, d2
	return i
}

func si(name string, i2, b1, d1 int) api.Ins {
	i := bare(name)
	i.I2, i.B1, i.D1 = i2, b1, d1
	return i
}

func ss(name string, l1, b1, d1, b2, d2 int) api.Ins {
	i := bare(name)
	i.L1, i.B1, i.D1, i.B2, i.D2 = l1, b1, d1, b2, d2
	return i
}

// edges are words at the ends of all sorts of ranges.
func edges() []uint32 {
	return []uint32{
		0, 1, 2, 3, 7, 0x7F, 0x80, 0xFF, 0x100, 0x7FFF, 0x8000, 0xFFFF, 0x10000, 0xFFFFFF, 0x1000000, 0x12345678,
		0x3FFFFFFF, 0x40000000, 0x55555555, 0x7FFFFFFE, 0x7FFFFFFF, 0x80000000, 0x80000001, 0xAAAAAAAA, 0xC0000000, 0xFFFF7FFF, 0xFFFF8000, 0xFFFFFFFD, 0xFFFFFFFE, 0xFFFFFFFF,
	}
}

// far are numbers that no field of an instruction or of a program status word can have.
func far() []int {
	return []int{math.MinInt, math.MinInt + 1, math.MinInt32, -1 << 32, -65536, -4096, -256, -16, -2, -1, 1 << 24, 1<<24 + 1, math.MaxInt32, 1 << 32, 1<<32 + 1, 1 << 62, math.MaxInt - 1, math.MaxInt}
}

// namesIn returns the general instructions of the formats.
func namesIn(forms ...int) []string {
	var all []string
	for _, in := range known {
		if slices.Contains(forms, in.form) {
			all = append(all, in.name)
		}
	}
	return all
}
