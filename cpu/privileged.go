package cpu

import (
	"jobshop/api"
	"jobshop/psw"
)

// Operation codes of the privileged instructions.
const (
	opSSK  = 0x08
	opISK  = 0x09
	opSSM  = 0x80
	opLPSW = 0x82
	opSIO  = 0x9C
	opTIO  = 0x9D
	opHIO  = 0x9E
	opTCH  = 0x9F
)

// addresses is the number of addresses that operands may have; the one after the last is 0.
const addresses = 1 << 24

// unitMask has the bits of an address that make the address of a unit.
const unitMask = 0xFFFF

// keySpan divides the addresses by which SSK and ISK name a block.
const keySpan = 16

// In a register, the number that stands for the key of a block has the place keyMask, and is multiplied by keyStep.
const (
	keyMask = 0xF8
	keyStep = 8
)

// lowByte has the bits of a register's low byte.
const lowByte = 0xFF

// privileged returns what executes the privileged instructions, by operation code. Each returns the code that it results in; it has no effect unless that is api.CodeNone.
func privileged() map[int]func(*CPU, api.Ins) int {
	return map[int]func(*CPU, api.Ins) int{
		opSSK:  (*CPU).setKey,
		opISK:  (*CPU).insertKey,
		opSSM:  (*CPU).setMask,
		opLPSW: (*CPU).loadStatus,
		opSIO:  (*CPU).startUnit,
		opTIO:  (*CPU).testUnit,
		opHIO:  (*CPU).haltUnit,
		opTCH:  (*CPU).testChannel,
	}
}

// performPrivileged executes the privileged instruction i, unless a problem program runs, and returns the code that it results in.
func (c *CPU) performPrivileged(i api.Ins) int {
	if c.status.Problem {
		return api.CodePrivileged
	}
	return privileged()[i.Op](c, i)
}

// address returns the displacement plus the contents of the registers with the given numbers, modulo 2 to the power 24. Register 0 counts as 0.
func (c *CPU) address(displacement int, numbers ...int) int {
	sum := uint32(displacement)
	for _, n := range numbers {
		if n != 0 {
			sum += c.regs[n]
		}
	}
	return int(sum % addresses)
}

// first returns the address that B1 and D1 give.
func (c *CPU) first(i api.Ins) int {
	return c.address(i.D1, i.B1)
}

// setMask executes SSM.
func (c *CPU) setMask(i api.Ins) int {
	b, code := c.fetch(c.first(i), 1)
	if code != api.CodeNone {
		return code
	}
	c.status.Mask = int(b[0])
	return api.CodeNone
}

// loadStatus executes LPSW.
func (c *CPU) loadStatus(i api.Ins) int {
	a1 := c.first(i)
	if a1%statusSize != 0 {
		return api.CodeSpecific
	}
	b, code := c.fetch(a1, statusSize)
	if code != api.CodeNone {
		return code
	}
	p, ok := psw.Decode(b)
	if !ok {
		return api.CodeSpecific
	}
	c.status = p
	return api.CodeNone
}

// block returns the address by which register R2 names a block of storage, or the code in which that results.
func (c *CPU) block(i api.Ins) (int, int) {
	x := int(c.regs[i.R2] % addresses)
	switch {
	case x%keySpan != 0:
		return 0, api.CodeSpecific
	case x >= c.storage.Size():
		return 0, api.CodeAddressing
	}
	return x, api.CodeNone
}

// setKey executes SSK.
func (c *CPU) setKey(i api.Ins) int {
	x, code := c.block(i)
	if code == api.CodeNone {
		c.storage.SetKey(x, int(c.regs[i.R1]&keyMask)/keyStep)
	}
	return code
}

// insertKey executes ISK.
func (c *CPU) insertKey(i api.Ins) int {
	x, code := c.block(i)
	if code == api.CodeNone {
		number, _ := c.storage.KeyOf(x)
		c.regs[i.R1] = c.regs[i.R1]&^lowByte | uint32(number*keyStep)
	}
	return code
}

// startUnit executes SIO.
func (c *CPU) startUnit(i api.Ins) int {
	return c.ask(api.EvStart, i)
}

// testUnit executes TIO.
func (c *CPU) testUnit(i api.Ins) int {
	return c.ask(api.EvTest, i)
}

// haltUnit executes HIO.
func (c *CPU) haltUnit(i api.Ins) int {
	return c.ask(api.EvHalt, i)
}

// testChannel executes TCH.
func (c *CPU) testChannel(i api.Ins) int {
	return c.ask(api.EvChan, i)
}

// ask opens a question of the kind, which Answer closes.
func (c *CPU) ask(kind int, i api.Ins) int {
	c.question = api.Event{Kind: kind, Unit: c.first(i) & unitMask}
	return api.CodeNone
}
