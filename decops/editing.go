package decops

import (
	"jobshop/api"
	"jobshop/edit"
)

func (e *execution) edit() {
	e.editText()
}

// editAndMark executes EDMK, which leaves register 1 as it is if there is no mark.
func (e *execution) editAndMark() {
	a1, _ := e.first()
	if mark := e.editText(); mark >= 0 {
		e.regs[1] = e.regs[1]&^(addresses-1) | uint32(a1+mark)
	}
}

// editText replaces the pattern, which is the first operand, by the edited text, and returns the mark.
func (e *execution) editText() (mark int) {
	pattern := e.fetch(e.first())
	source, missing := e.source(len(pattern))
	r, code := edit.Edit(pattern, source)
	if code == api.CodeAddressing {
		code = missing
	}
	endOn(code)
	e.replace(r.Text)
	e.status.CC = r.CC
	return r.Mark
}

// source returns the bytes from the address of the second operand on, at most n of them, up to the first one that cannot be fetched, and the code of its fetch. That code counts only if the pattern needs the byte.
func (e *execution) source(n int) (b []byte, code int) {
	a, _ := e.second()
	for addr := a; addr < a+n; addr++ {
		x, code := e.storage.Fetch(addr, 1, e.status.Key)
		if code != api.CodeNone {
			return b, code
		}
		b = append(b, x...)
	}
	return b, api.CodeNone
}
