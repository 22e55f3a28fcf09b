package general

import (
	"jobshop/api"
	"jobshop/psw"
	"jobshop/word"
)

// The lowest bits of the parts of a link word; the instruction address is below them.
const (
	lengthPlace = 30
	ccPlace     = 28
	maskPlace   = 24
)

// branch executes all branches. The target is taken before the instruction changes a register that gives it.
func (e *execution) branch() {
	addr, given := e.target()
	if e.turns() && given {
		e.status.Addr = addr
	}
}

// target returns the address to which the instruction may branch, and whether there is one: register 0 gives none.
func (e *execution) target() (addr int, given bool) {
	if e.ins.Form == api.FormRR {
		return e.address(0, e.ins.R2), e.ins.R2 != 0
	}
	return e.second(), true
}

// turns does what the instruction does before it branches, and reports whether its condition holds.
func (e *execution) turns() bool {
	switch e.ins.Op {
	case opBALR, opBAL:
		e.set(link(e.status))
		return true
	case opBCTR, opBCT:
		return e.countDown()
	case opBXH, opBXLE:
		return e.step() == (e.ins.Op == opBXH)
	}
	return psw.Branch(e.ins.R1, e.status.CC)
}

// link returns the link word of a program status word.
func link(p api.PSW) uint32 {
	return uint32(p.ILC)<<lengthPlace | uint32(p.CC)<<ccPlace | uint32(p.Prog)<<maskPlace | uint32(p.Addr)
}

// countDown subtracts 1 from register R1, and reports whether the result is not 0.
func (e *execution) countDown() bool {
	e.set(e.regs[e.ins.R1] - 1)
	return e.regs[e.ins.R1] != 0
}

// step adds register R2 to register R1, and reports whether the sum is greater than the comparand, which is the register at R2 that is odd.
func (e *execution) step() bool {
	comparand := e.regs[e.ins.R2|1]
	sum, _ := word.AddLogical(e.regs[e.ins.R1], e.regs[e.ins.R2])
	e.set(sum)
	return word.Compare(sum, comparand) == ccGreater
}
