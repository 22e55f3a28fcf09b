package decops_test

import (
	"bytes"
	"encoding/hex"
	"fmt"
	"math"
	"slices"
	"strings"
	"testing"

	"jobshop/api"
	"jobshop/decops"
	"jobshop/store"
)

// setting is the state in which instructions are executed, for the model and as a storage.
type setting struct {
	t *testing.T
	model
	s *store.Store
}

// newSetting returns a setting with a block of storage for each of the numbers that stand for a key and fetch protection. No byte is 0, and neighbours differ; no register has what another one has.
func newSetting(t *testing.T, numbers ...int) *setting {
	t.Helper()
	size := 2048 * len(numbers)
	s, err := store.New(size)
	if s == nil || err != api.OK {
		t.Fatalf("New of %d bytes = %v, %d", size, s, err)
	}
	c := &setting{t: t, s: s, model: model{values: make([]byte, size), numbers: make([]byte, size)}}
	for n := range c.regs {
		c.regs[n] = uint32(n+1) * 0x0F1E2D3B
	}
	c.psw = api.PSW{Mask: 0xA5, Machine: true, Problem: true, Code: 0x1234, ILC: 3, CC: 1, Prog: 10, Addr: 0xABCDE0}
	c.fill(0, pattern(size)...)
	for block, n := range numbers {
		c.lock(block, n)
	}
	return c
}

// pattern returns n bytes that are not 0.
func pattern(n int) []byte {
	b := make([]byte, n)
	for k := range b {
		b[k] = byte((k*7+k/255)%255 + 1)
	}
	return b
}

// fill stores the bytes from addr on.
func (c *setting) fill(addr int, b ...byte) {
	c.t.Helper()
	if code := c.s.Put(addr, b, 0); code != 0 {
		c.t.Fatalf("Put at %d of %d bytes = %d", addr, len(b), code)
	}
	copy(c.values[addr:], b)
}

// bytesOf returns the bytes whose hexadecimal digits the text has.
func bytesOf(text string) []byte {
	b, err := hex.DecodeString(strings.ReplaceAll(text, " ", ""))
	if err != nil {
		panic(err)
	}
	return b
}

// set stores the bytes of the text from addr on, and returns their number.
func (c *setting) set(addr int, text string) int {
	c.t.Helper()
	b := bytesOf(text)
	c.fill(addr, b...)
	return len(b)
}

// lock gives a block the key and the fetch protection for which the number stands.
func (c *setting) lock(block, number int) {
	c.t.Helper()
	if !c.s.SetKey(2048*block, number) {
		c.t.Fatalf("SetKey of the block %d, %d is false", block, number)
	}
	for k := range 2048 {
		c.numbers[2048*block+k] = byte(number)
	}
}

// want returns what an instruction is to leave, and its code.
func (c *setting) want(i api.Ins) (model, int) {
	m := c.model
	m.values = slices.Clone(c.values)
	code := m.run(i)
	if code != 0 && code != 10 {
		return c.model, code
	}
	return m, code
}

// result is what an execution returned and left.
type result struct {
	regs api.Regs
	psw  api.PSW
	code int
	s    *store.Store
}

// text returns the n bytes from addr on that an execution left, in hexadecimal.
func (r result) text(addr, n int) string { return fmt.Sprintf("% X", r.s.Bytes(addr, n)) }

// exec executes the instruction, compares everything with the model, and returns what the execution returned and left. The setting remains.
func (c *setting) exec(i api.Ins) result {
	c.t.Helper()
	want, code := c.want(i)
	return c.expect(i, want, code)
}

// refuse executes an instruction that is to change nothing and to result in the code.
func (c *setting) refuse(i api.Ins, code int) {
	c.t.Helper()
	c.expect(i, c.model, code)
}

// expect executes the instruction and compares everything with want and the code.
func (c *setting) expect(i api.Ins, want model, code int) result {
	c.t.Helper()
	r := result{s: c.s.Copy()}
	r.regs, r.psw, r.code = decops.Exec(i, c.regs, c.psw, r.s)
	if r.code != code {
		c.t.Errorf("%s: code %d, want %d", c.show(i), r.code, code)
	}
	for n := range want.regs {
		if r.regs[n] != want.regs[n] {
			c.t.Errorf("%s: register %d is %08X, want %08X", c.show(i), n, r.regs[n], want.regs[n])
		}
	}
	if r.psw != want.psw {
		c.t.Errorf("%s: program status word %+v, want %+v", c.show(i), r.psw, want.psw)
	}
	c.compareStorage(i, r.s, want)
	return r
}

// compareStorage compares all that the storage holds.
func (c *setting) compareStorage(i api.Ins, s *store.Store, want model) {
	c.t.Helper()
	b := s.Bytes(0, len(want.values))
	if s.Size() != len(want.values) || len(b) != len(want.values) {
		c.t.Fatalf("%s: a storage of %d bytes, want %d", c.show(i), s.Size(), len(want.values))
	}
	if !bytes.Equal(b, want.values) {
		at := 0
		for b[at] == want.values[at] {
			at++
		}
		c.t.Errorf("%s: the byte at %d is %02X, want %02X", c.show(i), at, b[at], want.values[at])
	}
	for at := 0; at < len(b); at += 2048 {
		if n, _ := s.KeyOf(at); n != int(want.numbers[at]) {
			c.t.Errorf("%s: the block at %d has the number %d, want %d", c.show(i), at, n, want.numbers[at])
		}
	}
}

// show shows an instruction with what it depends on.
func (c *setting) show(i api.Ins) string {
	about := fmt.Sprintf("%s %+v, registers %08X, key %d, CC %d, program mask %d", named[i.Op], i, c.regs, c.psw.Key, c.psw.CC, c.psw.Prog)
	for _, at := range []int{c.address(i.D1, i.B1), c.address(i.D2, i.B2, i.X2)} {
		if at >= 0 && at < len(c.values) {
			about += fmt.Sprintf(", % X at %d", c.values[at:min(at+16, len(c.values))], at)
		}
	}
	return about
}

// check fails the test unless the condition holds.
func check(t *testing.T, condition bool, about string, values ...any) {
	t.Helper()
	if !condition {
		t.Error(append([]any{about}, values...)...)
	}
}

// bare returns an instruction without fields.
func bare(name string) api.Ins {
	for _, in := range known {
		if in.name == name {
			return api.Ins{Op: in.op, Form: in.form}
		}
	}
	panic(name)
}

// convert returns CVB or CVD with the register r1 and the address that the index, the base and the displacement give.
func convert(name string, r1, x2, b2, d2 int) api.Ins {
	i := bare(name)
	i.R1, i.X2, i.B2, i.D2 = r1, x2, b2, d2
	return i
}

// The registers that give the addresses of operands in the following functions.
const (
	base1 = 6
	base2 = 7
)

// aim makes the register b and the displacement d give the address a. The register's high byte does not matter.
func (c *setting) aim(b, d, a int) {
	c.regs[b] = uint32(a-d)&0xFFFFFF | 0xCD<<24
}

// fields returns an instruction with an operand of n1 bytes at a1 and one of n2 bytes at a.
func (c *setting) fields(name string, n1, a1, n2, a int) api.Ins {
	i := bare(name)
	i.L1, i.B1, i.D1, i.B2, i.D2 = n1-1, base1, 48, base2, 4095
	if i.Form == api.FormSS2 {
		i.L2 = n2 - 1
	}
	c.aim(base1, 48, a1)
	c.aim(base2, 4095, a)
	return i
}

// conversion returns CVB or CVD of register 5 with the address a.
func (c *setting) conversion(name string, a int) api.Ins {
	c.aim(base2, 4095, a)
	return convert(name, 5, 0, base2, 4095)
}

// shift returns an SRP of n1 bytes at a1 whose second address is a.
func (c *setting) shift(n1, a1, a, digit int) api.Ins {
	return c.fields("SRP", n1, a1, digit+1, a)
}

// arithmetic returns what an instruction leaves of the two fields, which it finds at 1024 and 512: the first one, and the condition code and the code.
func (c *setting) arithmetic(name, first, second string) (string, int, int) {
	c.t.Helper()
	n1, n2 := c.set(1024, first), c.set(512, second)
	r := c.exec(c.fields(name, n1, 1024, n2, 512))
	check(c.t, r.text(512, n2) == fmt.Sprintf("% X", bytesOf(second)), "the second operand of", name, r.text(512, n2))
	return r.text(1024, n1), r.psw.CC, r.code
}

// far are numbers that no field of an instruction or of a program status word can have.
func far() []int {
	return []int{math.MinInt, math.MinInt + 1, math.MinInt32, -1 << 32, -65536, -4096, -256, -16, -2, -1, 1 << 24, 1<<24 + 1, math.MaxInt32, 1 << 32, 1<<32 + 1, 1 << 62, math.MaxInt - 1, math.MaxInt}
}

// masks are program masks without and with the bit of the decimal overflow.
func masks() []int { return []int{0, 4, 11, 15} }
