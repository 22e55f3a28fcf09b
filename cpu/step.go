package cpu

import (
	"jobshop/api"
	"jobshop/decops"
	"jobshop/general"
	"jobshop/isa"
	"jobshop/psw"
)

// Operation codes of the instructions of the processor itself that are not privileged.
const (
	opSVC = 0x0A
	opEX  = 0x44
)

// shortest is the number of bytes that every instruction has at least.
const shortest = 2

// Step takes the pending interruption of the highest priority that the current program status word admits, or executes one instruction, and returns what happened.
func (c *CPU) Step() api.Event {
	if c == nil {
		return api.Event{}
	}
	if c.stopped {
		return api.Event{Kind: api.EvWait}
	}
	if c.asks() {
		return c.question
	}
	if place := c.next(); place >= 0 {
		return c.takePending(place)
	}
	if c.status.Wait {
		return api.Event{Kind: api.EvWait}
	}
	return c.advance()
}

// advance executes the instruction at the instruction address. What cannot be fetched does not count, and has no length.
func (c *CPU) advance() api.Event {
	b, code := c.instructionAt(c.status.Addr)
	if code != api.CodeNone {
		c.status.ILC = 0
		return c.take(program(code))
	}
	c.count++
	c.status = psw.Advance(c.status, len(b))
	if i := c.perform(b); i != (interruption{}) {
		return c.take(i)
	}
	return c.question
}

// program returns the program interruption with the code, or none for api.CodeNone.
func program(code int) interruption {
	if code == api.CodeNone {
		return interruption{}
	}
	return interruption{api.ClassProgram, code}
}

// instructionAt returns the bytes of the instruction at addr, or the code in which fetching them results. Only the first of them tells how many there are, so that they are fetched twice.
func (c *CPU) instructionAt(addr int) ([]byte, int) {
	if addr%2 != 0 {
		return nil, api.CodeSpecific
	}
	b, code := c.fetch(addr, shortest)
	if code != api.CodeNone {
		return nil, code
	}
	return c.fetch(addr, isa.Length(int(b[0])))
}

// fetch returns the n bytes from addr on, or the code in which fetching them with the current key results.
func (c *CPU) fetch(addr, n int) ([]byte, int) {
	return c.storage.Fetch(addr, n, c.status.Key)
}

// perform decodes and executes the instruction with the bytes b, which the instruction address has passed, and returns the interruption that it brings about.
func (c *CPU) perform(b []byte) interruption {
	i, ok := isa.Decode(b)
	switch {
	case !ok:
		return program(api.CodeOperation)
	case isa.Privileged(i.Op):
		return program(c.performPrivileged(i))
	case i.Op == opSVC:
		return interruption{api.ClassSvc, i.I2}
	case i.Op == opEX:
		return c.performTarget(i)
	case decops.Knows(i.Op):
		return c.adopt(decops.Exec(i, c.regs, c.status, c.storage))
	}
	return c.adopt(general.Exec(i, c.regs, c.status, c.storage))
}

// adopt makes the results of a lower layer those of the processor.
func (c *CPU) adopt(r api.Regs, p api.PSW, code int) interruption {
	c.regs, c.status = r, p
	return program(code)
}

// performTarget executes EX. Its target is not another EX, so performing it ends.
func (c *CPU) performTarget(i api.Ins) interruption {
	b, code := c.instructionAt(c.address(i.D2, i.B2, i.X2))
	if code != api.CodeNone {
		return program(code)
	}
	if b[0] == opEX {
		return program(api.CodeExecute)
	}
	if i.R1 != 0 {
		b[1] |= byte(c.regs[i.R1])
	}
	return c.perform(b)
}
