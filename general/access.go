package general

import (
	"jobshop/api"
	"jobshop/word"
)

// addresses is the number of addresses that operands and instructions may have; the one after the last is 0.
const addresses = 1 << 24

// The bytes of operands.
const (
	halfSize = 2
	fullSize = 4
)

// address returns the displacement plus the contents of the registers with the given numbers, modulo 2 to the power 24. Register 0 counts as 0.
func (e *execution) address(displacement int, numbers ...int) int {
	sum := uint32(displacement)
	for _, n := range numbers {
		if n != 0 {
			sum += e.regs[n]
		}
	}
	return int(sum % addresses)
}

// first returns the address that B1 and D1 give.
func (e *execution) first() int {
	return e.address(e.ins.D1, e.ins.B1)
}

// second returns the address that B2, D2 and X2 give. A format without an index has 0 as X2.
func (e *execution) second() int {
	return e.address(e.ins.D2, e.ins.B2, e.ins.X2)
}

// aligned returns what second returns, which must be divisible by size.
func (e *execution) aligned(size int) int {
	a := e.second()
	require(a%size == 0, api.CodeSpecific)
	return a
}

// fetch returns the n bytes from addr on.
func (e *execution) fetch(addr, n int) []byte {
	b, code := e.storage.Fetch(addr, n, e.status.Key)
	require(code == api.CodeNone, code)
	return b
}

// fetchByte returns the byte at addr.
func (e *execution) fetchByte(addr int) byte {
	return e.fetch(addr, 1)[0]
}

// put stores the bytes from addr on, as one access.
func (e *execution) put(addr int, b ...byte) {
	code := e.storage.Put(addr, b, e.status.Key)
	require(code == api.CodeNone, code)
}

// operand returns the operand of an instruction on words: register R2, a fullword, or a halfword that is extended with its sign.
func (e *execution) operand() uint32 {
	switch e.ins.Op {
	case opLH, opCH, opAH, opSH, opMH:
		v, _ := word.Half(e.fetch(e.aligned(halfSize), halfSize), 0)
		return v
	}
	if e.ins.Form == api.FormRR {
		return e.regs[e.ins.R2]
	}
	v, _ := word.Full(e.fetch(e.aligned(fullSize), fullSize), 0)
	return v
}

// pair returns the number of the first register of the pair of R1, which must be even, and that of the second one.
func (e *execution) pair() (hi, lo int) {
	require(e.ins.R1%2 == 0, api.CodeSpecific)
	return e.ins.R1, e.ins.R1 + 1
}
