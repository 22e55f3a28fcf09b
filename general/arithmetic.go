package general

import (
	"jobshop/api"
	"jobshop/psw"
	"jobshop/word"
)

// Condition codes of numbers and of comparisons.
const (
	ccNegative = 1
	ccPositive = 2
	ccGreater  = 2
)

// set makes v the contents of register R1.
func (e *execution) set(v uint32) {
	e.regs[e.ins.R1] = v
}

// setPair makes the words hi and lo the contents of the pair of R1.
func (e *execution) setPair(hi, lo uint32) {
	e.regs[e.ins.R1], e.regs[e.ins.R1+1] = hi, lo
}

// setCode sets the condition code of an operation that may overflow. With an overflow the results stand, but the program may ask for an interruption.
func (e *execution) setCode(cc int, over bool) {
	e.status.CC = cc
	if over && psw.Admits(e.status, api.ClassProgram, api.CodeOverflow, 0) {
		e.code = api.CodeOverflow
	}
}

// become sets register R1 and the condition code.
func (e *execution) become(v uint32, cc int) {
	e.set(v)
	e.status.CC = cc
}

// becomeSigned does what become does, for an operation that may overflow.
func (e *execution) becomeSigned(v uint32, cc int, over bool) {
	e.set(v)
	e.setCode(cc, over)
}

func (e *execution) load() {
	e.set(e.operand())
}

// loadTested executes LTR, LCR, LPR and LNR.
func (e *execution) loadTested() {
	v := e.operand()
	cc := word.Test(v)
	if complements(e.ins.Op, cc) {
		e.becomeSigned(word.Complement(v))
		return
	}
	e.become(v, cc)
}

// complements reports whether the instruction loads the complement of an operand whose condition code is cc.
func complements(op, cc int) bool {
	switch op {
	case opLCR:
		return true
	case opLPR:
		return cc == ccNegative
	case opLNR:
		return cc == ccPositive
	}
	return false
}

// add executes additions and subtractions.
func (e *execution) add() {
	v := e.operand()
	r := e.regs[e.ins.R1]
	switch e.ins.Op {
	case opAR, opA, opAH:
		e.becomeSigned(word.Add(r, v))
	case opSR, opS, opSH:
		e.becomeSigned(word.Sub(r, v))
	case opALR, opAL:
		e.become(word.AddLogical(r, v))
	case opSLR, opSL:
		e.become(word.SubLogical(r, v))
	}
}

func (e *execution) compare() {
	v := e.operand()
	r := e.regs[e.ins.R1]
	switch e.ins.Op {
	case opCR, opC, opCH:
		e.status.CC = word.Compare(r, v)
	case opCLR, opCL:
		e.status.CC = word.CompareLogical(r, v)
	}
}

// combine executes the bitwise operations on words.
func (e *execution) combine() {
	v := bitwise(e.ins.Op, e.regs[e.ins.R1], e.operand())
	e.become(v, ccOfBits(v))
}

// bitwise returns the and, the or or the exclusive or of x and y, whichever the operation code stands for.
func bitwise[T byte | uint32](op int, x, y T) T {
	switch op {
	case opNR, opN, opNI, opNC:
		return x & y
	case opOR, opO, opOI, opOC:
		return x | y
	}
	return x ^ y
}

// ccOfBits returns the condition code of a bitwise operation with the given results: 0 if all of them are 0, and 1 otherwise.
func ccOfBits[T byte | uint32](results ...T) int {
	for _, v := range results {
		if v != 0 {
			return 1
		}
	}
	return 0
}

func (e *execution) multiply() {
	_, lo := e.pair()
	v := e.operand()
	e.setPair(word.Mul(e.regs[lo], v))
}

func (e *execution) multiplyHalf() {
	_, lo := word.Mul(e.regs[e.ins.R1], e.operand())
	e.set(lo)
}

func (e *execution) divide() {
	hi, lo := e.pair()
	d := e.operand()
	remainder, quotient, ok := word.Div(e.regs[hi], e.regs[lo], d)
	require(ok, api.CodeDivide)
	e.setPair(remainder, quotient)
}

// shift executes the shifts of a register.
func (e *execution) shift() {
	v, places := e.regs[e.ins.R1], e.second()
	switch e.ins.Op {
	case opSLA:
		e.becomeSigned(word.ShiftLeft(v, places))
	case opSRA:
		e.become(word.ShiftRight(v, places))
	case opSLL, opSRL:
		e.set(word.ShiftLogical(v, places, e.ins.Op == opSLL))
	}
}

// shiftPair executes the shifts of a pair.
func (e *execution) shiftPair() {
	left, right := e.pair()
	hi, lo, places := e.regs[left], e.regs[right], e.second()
	switch e.ins.Op {
	case opSLDA:
		rhi, rlo, cc, over := word.ShiftLeftDouble(hi, lo, places)
		e.setPair(rhi, rlo)
		e.setCode(cc, over)
	case opSRDA:
		rhi, rlo, cc := word.ShiftRightDouble(hi, lo, places)
		e.setPair(rhi, rlo)
		e.status.CC = cc
	case opSLDL, opSRDL:
		e.setPair(word.ShiftLogicalDouble(hi, lo, places, e.ins.Op == opSLDL))
	}
}

func (e *execution) loadAddress() {
	e.set(uint32(e.second()))
}

// setProgramMask takes the condition code and the program mask from where a link word has them.
func (e *execution) setProgramMask() {
	v := e.regs[e.ins.R1]
	e.status.CC = int(v >> ccPlace & 3)
	e.status.Prog = int(v >> maskPlace & 15)
}
