package decops

import "jobshop/api"

// addresses is the number of addresses that operands may have; the one after the last is 0.
const addresses = 1 << 24

// doubleSize is the number of bytes of the packed field of CVB and CVD.
const doubleSize = 8

// address returns the displacement plus the contents of the registers with the given numbers, modulo 2 to the power 24. Register 0 counts as 0.
func (e *execution) address(displacement int, numbers ...int) int {
	sum := uint32(displacement)
	for _, n := range numbers {
		if n != 0 {
			sum += e.regs[n]
		}
	}
	return int(sum % addresses)
}

// first returns the address of the first operand, and the number of its bytes.
func (e *execution) first() (addr, n int) {
	return e.address(e.ins.D1, e.ins.B1), e.ins.L1 + 1
}

// second returns the address of the second operand, and the number of its bytes if the instruction gives one.
func (e *execution) second() (addr, n int) {
	return e.address(e.ins.D2, e.ins.B2, e.ins.X2), e.ins.L2 + 1
}

// double returns the address of the field of CVB and CVD, which must be divisible by the number of its bytes.
func (e *execution) double() int {
	a, _ := e.second()
	if a%doubleSize != 0 {
		endOn(api.CodeSpecific)
	}
	return a
}

// fetch returns the n bytes from addr on.
func (e *execution) fetch(addr, n int) []byte {
	b, code := e.storage.Fetch(addr, n, e.status.Key)
	endOn(code)
	return b
}

// operands returns both operands. The first one is fetched first, so that its code comes first.
func (e *execution) operands() (x, y []byte) {
	x = e.fetch(e.first())
	y = e.fetch(e.second())
	return x, y
}

// put stores the bytes from addr on.
func (e *execution) put(addr int, b []byte) {
	endOn(e.storage.Put(addr, b, e.status.Key))
}

// replace stores the bytes in the place of the first operand.
func (e *execution) replace(b []byte) {
	a1, _ := e.first()
	e.put(a1, b)
}
