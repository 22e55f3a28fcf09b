package general

import (
	"jobshop/api"
	"jobshop/word"
)

// registers is the number of registers; the one after the last is register 0.
const registers = len(api.Regs{})

// fullBytes returns the bytes of the words, one after the other.
func fullBytes(words ...uint32) []byte {
	b := make([]byte, fullSize*len(words))
	for k, v := range words {
		b, _ = word.PutFull(b, fullSize*k, v)
	}
	return b
}

// storeRegister executes ST, STH and STC, which store the last bytes of a register.
func (e *execution) storeRegister() {
	size := 1
	switch e.ins.Op {
	case opST:
		size = fullSize
	case opSTH:
		size = halfSize
	}
	a := e.aligned(size)
	e.put(a, fullBytes(e.regs[e.ins.R1])[fullSize-size:]...)
}

func (e *execution) insertByte() {
	x := e.fetchByte(e.second())
	e.set(withLowByte(e.regs[e.ins.R1], x))
}

// withLowByte returns v with x in the place of its low byte.
func withLowByte(v uint32, x byte) uint32 {
	return v&^0xFF | uint32(x)
}

// listed returns the numbers of the registers from R1 on up to R2.
func (e *execution) listed() []int {
	last := e.ins.R2
	if last < e.ins.R1 {
		last += registers
	}
	var numbers []int
	for n := e.ins.R1; n <= last; n++ {
		numbers = append(numbers, n%registers)
	}
	return numbers
}

func (e *execution) loadMultiple() {
	a, numbers := e.aligned(fullSize), e.listed()
	b := e.fetch(a, fullSize*len(numbers))
	for k, n := range numbers {
		e.regs[n], _ = word.Full(b, fullSize*k)
	}
}

func (e *execution) storeMultiple() {
	a := e.aligned(fullSize)
	var words []uint32
	for _, n := range e.listed() {
		words = append(words, e.regs[n])
	}
	e.put(a, fullBytes(words...)...)
}

func (e *execution) moveImmediate() {
	e.put(e.first(), byte(e.ins.I2))
}

// combineImmediate executes the bitwise operations on a byte of storage and the immediate byte.
func (e *execution) combineImmediate() {
	a1 := e.first()
	x := bitwise(e.ins.Op, e.fetchByte(a1), byte(e.ins.I2))
	e.put(a1, x)
	e.status.CC = ccOfBits(x)
}

// examineByte executes CLI and TM.
func (e *execution) examineByte() {
	x, mask := e.fetchByte(e.first()), byte(e.ins.I2)
	switch e.ins.Op {
	case opCLI:
		e.status.CC = word.CompareLogical(uint32(x), uint32(mask))
	case opTM:
		e.status.CC = ccOfMask(x&mask, mask)
	}
}

// ccOfMask returns the condition code of TM: selected are the bits of the mask that are on in a byte.
func ccOfMask(selected, mask byte) int {
	switch selected {
	case 0:
		return 0
	case mask:
		return 3
	}
	return 1
}

func (e *execution) testAndSet() {
	a1 := e.first()
	x := e.fetchByte(a1)
	e.put(a1, 0xFF)
	e.status.CC = int(x >> 7)
}

// area is bytes from an address on, which an instruction replaces one after the other before it stores them.
type area struct {
	addr  int
	bytes []byte
}

// byteAt returns the byte at an address where storage has stored: that of the area if the address is in it.
func (a area) byteAt(addr int, stored byte) byte {
	if at := addr - a.addr; at >= 0 && at < len(a.bytes) {
		return a.bytes[at]
	}
	return stored
}

// fields returns the addresses of both operands, and the number of their bytes.
func (e *execution) fields() (a1, a, n int) {
	return e.first(), e.second(), e.ins.L1 + 1
}

// replace executes the moves and the bitwise operations on bytes of storage.
func (e *execution) replace() {
	a1, a, n := e.fields()
	target := area{a1, e.fetch(a1, n)}
	source := e.fetch(a, n)
	for k, old := range target.bytes {
		x := target.byteAt(a+k, source[k])
		target.bytes[k] = replacement(e.ins.Op, old, x)
	}
	e.put(a1, target.bytes...)
	switch e.ins.Op {
	case opNC, opOC, opXC:
		e.status.CC = ccOfBits(target.bytes...)
	}
}

// replacement returns what becomes of the byte old when x comes to it.
func replacement(op int, old, x byte) byte {
	switch op {
	case opMVC:
		return x
	case opMVN:
		return old&0xF0 | x&0x0F
	case opMVZ:
		return old&0x0F | x&0xF0
	}
	return bitwise(op, old, x)
}

func (e *execution) compareFields() {
	a1, a, n := e.fields()
	x := e.fetch(a1, n)
	y := e.fetch(a, n)
	e.status.CC = 0
	for k := range x {
		if x[k] != y[k] {
			e.status.CC = word.CompareLogical(uint32(x[k]), uint32(y[k]))
			return
		}
	}
}

func (e *execution) translate() {
	a1, table, n := e.fields()
	target := area{a1, e.fetch(a1, n)}
	for k, old := range target.bytes {
		at := table + int(old)
		target.bytes[k] = target.byteAt(at, e.fetchByte(at))
	}
	e.put(a1, target.bytes...)
}

func (e *execution) translateAndTest() {
	a1, table, n := e.fields()
	e.status.CC = 0
	for k := range n {
		f := e.fetchByte(table + int(e.fetchByte(a1+k)))
		if f != 0 {
			e.hit(a1+k, f, k == n-1)
			return
		}
	}
}

// hit sets what TRT leaves when the function byte f of the byte at addr is not 0.
func (e *execution) hit(addr int, f byte, last bool) {
	e.regs[1] = e.regs[1]&^(addresses-1) | uint32(addr)
	e.regs[2] = withLowByte(e.regs[2], f)
	e.status.CC = 1
	if last {
		e.status.CC = 2
	}
}
