package decops

import (
	"jobshop/api"
	"jobshop/decimal"
	"jobshop/psw"
)

// maxSecond is the greatest number of bytes of the second operand of MP and DP.
const maxSecond = 8

// The numbers of places by which SRP shifts: from halfPlaces on they stand for shifts to the right, by as many places as they are less than allPlaces.
const (
	allPlaces  = 64
	halfPlaces = 32
)

// become stores the result of an operation that may overflow, and sets its condition code. With an overflow the result stands, but the program may ask for an interruption.
func (e *execution) become(field []byte, cc, code int) {
	if code != api.CodeDecOver {
		endOn(code)
	} else if psw.Admits(e.status, api.ClassProgram, code, 0) {
		e.code = code
	}
	e.replace(field)
	e.status.CC = cc
}

func (e *execution) zeroAndAdd() {
	_, n := e.first()
	e.become(decimal.Zap(n, e.fetch(e.second())))
}

func (e *execution) add() {
	e.become(decimal.Add(e.operands()))
}

func (e *execution) subtract() {
	e.become(decimal.Sub(e.operands()))
}

func (e *execution) compare() {
	cc, code := decimal.Compare(e.operands())
	endOn(code)
	e.status.CC = cc
}

func (e *execution) multiply() {
	product, code := decimal.Multiply(e.unequalOperands())
	endOn(code)
	e.replace(product)
}

func (e *execution) divide() {
	both, code := decimal.Divide(e.unequalOperands())
	endOn(code)
	e.replace(both)
}

// unequalOperands returns the operands of MP and DP. Their lengths are checked before anything is fetched.
func (e *execution) unequalOperands() (x, y []byte) {
	_, n1 := e.first()
	_, n2 := e.second()
	if n2 > maxSecond || n2 >= n1 {
		endOn(api.CodeSpecific)
	}
	return e.operands()
}

// shift executes SRP, whose L2 is the rounding digit.
func (e *execution) shift() {
	x := e.fetch(e.first())
	e.become(decimal.Shift(x, e.places(), e.ins.L2))
}

// places returns by how many places SRP shifts to the left.
func (e *execution) places() int {
	a, _ := e.second()
	n := a % allPlaces
	if n >= halfPlaces {
		return n - allPlaces
	}
	return n
}
