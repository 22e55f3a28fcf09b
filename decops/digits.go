package decops

import (
	"jobshop/decimal"
	"jobshop/packed"
)

// toBinary executes CVB. A number that does not fit leaves the register as it is.
func (e *execution) toBinary() {
	v, code := decimal.ToBinary(e.fetch(e.double(), doubleSize))
	endOn(code)
	e.regs[e.ins.R1] = v
}

// toDecimal executes CVD.
func (e *execution) toDecimal() {
	e.put(e.double(), decimal.FromBinary(e.regs[e.ins.R1]))
}

func (e *execution) pack() {
	_, n := e.first()
	e.replace(packed.Pack(e.fetch(e.second()), n))
}

func (e *execution) unpack() {
	_, n := e.first()
	e.replace(packed.Unpack(e.fetch(e.second()), n))
}

func (e *execution) moveOffset() {
	e.replace(packed.Offset(e.operands()))
}
