package general_test

import (
	"bytes"
	"slices"
	"testing"

	"jobshop/api"
	"jobshop/general"
	"jobshop/isa"
)

// TestChapter checks the expectations themselves.
func TestChapter(t *testing.T) {
	if len(known) != 73 || len(named) != 73 || len(effectOf) != 33 {
		t.Fatalf("%d general instructions, %d names, %d with an effect", len(known), len(named), len(effectOf))
	}
	for _, in := range known {
		form, ok := isa.Form(in.op)
		check(t, ok && form == in.form && isa.Name(in.op) == in.name, "another instruction in the chapter on the instruction set", in)
	}
}

// TestKnows is P9.1, for every operation code and others.
func TestKnows(t *testing.T) {
	ops := far()
	for op := -300; op <= 600; op++ {
		ops = append(ops, op)
	}
	for _, op := range ops {
		if got := general.Knows(op); got != (named[op] != "") {
			t.Errorf("Knows of %d (%s) = %v", op, isa.Name(op), got)
		}
	}
}

// TestNotKnown has codes of each kind that is not general (P9.1).
func TestNotKnown(t *testing.T) {
	for _, name := range []string{"SVC", "EX", "CVB", "CVD", "AP", "SRP", "ED", "EDMK", "PACK", "SSK", "ISK", "SSM", "LPSW", "SIO", "TIO", "HIO", "TCH"} {
		op, ok := isa.Find(name)
		check(t, ok && !general.Knows(op), "Knows of", name)
	}
	for _, name := range []string{"SPM", "BALR", "LPR", "SLR", "STH", "LA", "SL", "BXH", "SLDA", "STM", "LM", "TM", "XI", "TS", "MVN", "XC", "TR", "TRT"} {
		op, ok := isa.Find(name)
		check(t, ok && general.Knows(op), "Knows of", name)
	}
}

// valid returns instructions that the setting executes, one for each of the codes, which change what they can change.
func valid() []api.Ins {
	var all []api.Ins
	for _, in := range known {
		i := bare(in.name)
		switch in.form {
		case api.FormRR, api.FormRR1:
			i.R1 = 2
			if in.form == api.FormRR {
				i.R2 = 5
			}
		case api.FormRX:
			i.R1, i.D2 = 2, 1024
		case api.FormRS:
			i.R1, i.R2, i.D2 = 2, 5, 1024
		case api.FormSI:
			i.I2, i.D1 = 0x5A, 1024
		case api.FormS:
			i.D1 = 1024
		case api.FormSS:
			i.L1, i.D1, i.D2 = 8, 1024, 512
		}
		all = append(all, i)
	}
	return all
}

// TestValid has one instruction of each code, in storages of several sizes (P9.2).
func TestValid(t *testing.T) {
	for _, blocks := range []int{1, 2, 32} {
		c := newSetting(t, make([]int, blocks)...)
		for _, i := range valid() {
			r := c.exec(i)
			check(t, r.code == 0, "code of", named[i.Op], r.code)
		}
	}
}

// TestNilStorage is a part of P9.2: registers and program status word are returned in full.
func TestNilStorage(t *testing.T) {
	c := newSetting(t, 0)
	for _, i := range valid() {
		for _, p := range []api.PSW{c.psw, {}, {Mask: 256, CC: 4}} {
			regs, psw, code := general.Exec(i, c.regs, p, nil)
			check(t, regs == c.regs && psw == p && code == 1, "without a storage", named[i.Op], regs, psw, code)
		}
	}
}

// fieldsOf returns the places of the fields of an instruction.
func fieldsOf(i *api.Ins) []*int {
	return []*int{&i.R1, &i.R2, &i.X2, &i.B1, &i.D1, &i.B2, &i.D2, &i.L1, &i.L2, &i.I2}
}

// TestRefusedFields has each field of each instruction out of its range, and each field that its format does not have (P9.2).
func TestRefusedFields(t *testing.T) {
	c := newSetting(t, 0)
	for _, base := range valid() {
		for k := range fieldsOf(&base) {
			for _, v := range append(far(), 1, 15, 16, 17, 32, 255, 256, 512, 4095, 4096, 4097, 65536) {
				i := base
				*fieldsOf(&i)[k] = v
				if isa.Check(i) != api.OK {
					c.refuse(i, 1)
				}
			}
		}
	}
}

// TestRefusedByHand has fields that are wrong without asking isa (P9.2).
func TestRefusedByHand(t *testing.T) {
	c := newSetting(t, 0)
	for _, i := range []api.Ins{
		rr("AR", 16, 2), rr("AR", 1, -1), rx("ST", 1, 16, 0, 1024), rx("ST", 1, 0, 16, 1024), rx("ST", 1, 0, 0, 4096), rx("LA", -1, 0, 0, 0),
		rs("STM", 16, 2, 0, 1024), rs("STM", 1, 16, 0, 1024), si("MVI", 256, 0, 1024), si("MVI", -1, 0, 1024), si("MVI", 1, 0, -1),
		ss("MVC", 256, 0, 1024, 0, 512), ss("MVC", -1, 0, 1024, 0, 512), ss("XC", 1, 16, 0, 0, 0),
		{Op: 0x1A}, {Op: 0x1A, Form: api.FormRX, R1: 1}, {Op: 0x1A, Form: api.FormRR, D1: 1}, {Op: 0x1A, Form: api.FormRR, I2: 1},
		{Op: 0x92, Form: api.FormS, D1: 1024}, {Op: 0x93, Form: api.FormS, D1: 1024, I2: 1}, {Op: 0xD2, Form: api.FormSS, L2: 1}, {Op: 0xD2, Form: api.FormSS2, L1: 1},
		{Op: 0x04, Form: api.FormRR1, R1: 1, R2: 1}, {Op: 0x04, Form: api.FormRR, R1: 1}, {Op: 0x50, Form: api.FormRX, R1: 1, R2: 1, D2: 1024}, {Op: 0x90, Form: api.FormRS, X2: 1, D2: 1024},
	} {
		c.refuse(i, 1)
	}
}

// TestRefusedForms gives each instruction each format that it does not have (P9.2).
func TestRefusedForms(t *testing.T) {
	c := newSetting(t, 0)
	for _, base := range valid() {
		for _, form := range append(far(), 0, 1, 2, 3, 4, 5, 6, 7, 8, 9, 10, 11, 255) {
			i := base
			i.Form = form
			if form != base.Form {
				c.refuse(i, 1)
			}
		}
	}
}

// TestRefusedCodes has every operation code that is not general, with all formats (P9.2).
func TestRefusedCodes(t *testing.T) {
	c := newSetting(t, 0)
	for op := -20; op < 400; op++ {
		for form := 0; form <= 10 && named[op] == ""; form++ {
			c.refuse(api.Ins{Op: op, Form: form}, 1)
			c.refuse(api.Ins{Op: op, Form: form, R1: 2, R2: 4}, 1)
			c.refuse(api.Ins{Op: op, Form: form, R1: 2, D2: 1024}, 1)
			c.refuse(api.Ins{Op: op, Form: form, D1: 1024}, 1)
			c.refuse(api.Ins{Op: op, Form: form, I2: 7, D1: 1024}, 1)
			c.refuse(api.Ins{Op: op, Form: form, L1: 3, L2: 2, D1: 1024, D2: 512}, 1)
		}
	}
	for _, op := range far() {
		c.refuse(api.Ins{Op: op, Form: api.FormRR}, 1)
	}
}

// TestRefusedStatus has each field of the program status word out of its range (P9.2).
func TestRefusedStatus(t *testing.T) {
	c := newSetting(t, 0)
	good := c.psw
	for k, most := range []int{255, 15, 65535, 3, 3, 15, 1<<24 - 1} {
		for _, v := range append(far(), most+1, most+2, 2*most+2) {
			p := good
			fields := []*int{&p.Mask, &p.Key, &p.Code, &p.ILC, &p.CC, &p.Prog, &p.Addr}
			*fields[k] = v
			if v > most || v < 0 {
				c.psw = p
				c.refuse(valid()[0], 1)
				for _, name := range []string{"AR", "ST", "MVI", "BC", "BALR", "STM", "MVC", "TRT"} {
					c.refuse(valid()[slices.IndexFunc(known, func(in instruction) bool { return in.name == name })], 1)
				}
			}
		}
	}
}

// TestSeveralRefusals has several arguments that are refused (P9.2, P9.4).
func TestSeveralRefusals(t *testing.T) {
	c := newSetting(t, 0)
	c.psw.CC = 4
	c.refuse(api.Ins{Op: 0x58, Form: api.FormRX, D2: 1}, 1)
	c.refuse(api.Ins{Op: 0x1C, Form: api.FormRR, R1: 1}, 1)
	c.refuse(api.Ins{Op: 0x0A, Form: api.FormRRI, I2: 300}, 1)
	c.psw.CC = 0
	c.refuse(api.Ins{Op: 0x1D, Form: api.FormRR, R1: 1, R2: 16}, 1)
	c.refuse(api.Ins{Op: 0x58, Form: api.FormRX, D2: 5000}, 1)
}

// TestLeftAlone checks that the storage which is passed is the one that is used, and that no other one is kept (R3).
func TestLeftAlone(t *testing.T) {
	c := newSetting(t, 0)
	one, other := c.s.Copy(), c.s.Copy()
	general.Exec(si("MVI", 1, 0, 100), c.regs, c.psw, one)
	general.Exec(si("MVI", 2, 0, 200), c.regs, c.psw, other)
	b, d := one.Bytes(0, 2048), other.Bytes(0, 2048)
	check(t, b[100] == 1 && b[200] == c.values[200], "the first storage", b[100], b[200])
	check(t, d[200] == 2 && d[100] == c.values[100], "the second storage", d[200], d[100])
}

// TestSameAgain executes each instruction twice with equal arguments (R4).
func TestSameAgain(t *testing.T) {
	c := newSetting(t, 0)
	for _, i := range valid() {
		first, second := c.exec(i), c.exec(i)
		check(t, first.regs == second.regs && first.psw == second.psw && first.code == second.code, "another result of", named[i.Op])
		check(t, bytes.Equal(first.s.Bytes(0, 2048), second.s.Bytes(0, 2048)), "another storage after", named[i.Op])
	}
}
