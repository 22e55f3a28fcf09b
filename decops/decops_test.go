package decops_test

import (
	"bytes"
	"testing"

	"jobshop/api"
	"jobshop/decops"
	"jobshop/isa"
)

// TestChapter checks the expectations themselves.
func TestChapter(t *testing.T) {
	if len(known) != 14 || len(named) != 14 {
		t.Fatalf("%d decimal instructions, %d names", len(known), len(named))
	}
	for _, in := range known {
		form, ok := isa.Form(in.op)
		check(t, ok && form == in.form && isa.Name(in.op) == in.name, "another instruction in the chapter on the instruction set", in)
	}
}

// TestKnows is P10.1, for every operation code and others.
func TestKnows(t *testing.T) {
	ops := far()
	for op := -300; op <= 600; op++ {
		ops = append(ops, op)
	}
	for _, op := range ops {
		want := op == 0x4E || op == 0x4F || op == 0xDE || op == 0xDF || op >= 0xF0 && op <= 0xF3 || op >= 0xF8 && op <= 0xFD
		if got := decops.Knows(op); got != want || want != (named[op] != "") {
			t.Errorf("Knows of %d (%s) = %v", op, isa.Name(op), got)
		}
	}
}

// newValid returns a setting and instructions that it executes, one for each of the codes, each of which changes registers, program status word or storage.
func newValid(t *testing.T, blocks int) (*setting, []api.Ins) {
	c := newSetting(t, make([]int, blocks)...)
	c.set(512, "00 00 00 00 00 01 04 5D")
	c.set(1024, "00 00 12 3C")
	c.set(1100, "40 20 20 20 20 20")
	var all []api.Ins
	for _, in := range known {
		i := bare(in.name)
		switch in.form {
		case api.FormRX:
			i.R1, i.D2 = 5, 512
		case api.FormSS:
			i.L1, i.D1, i.D2 = 5, 1100, 1024
		case api.FormSS2:
			i.L1, i.L2, i.D1, i.D2 = 3, 1, 1024, 518
		}
		all = append(all, i)
	}
	return c, all
}

// TestValid has one instruction of each code, in storages of several sizes (P10.2).
func TestValid(t *testing.T) {
	for _, blocks := range []int{1, 2, 32} {
		c, all := newValid(t, blocks)
		for _, i := range all {
			r := c.exec(i)
			check(t, r.code == 0, "code of", named[i.Op], r.code)
			changed := r.regs != c.regs || r.psw != c.psw || !bytes.Equal(r.s.Bytes(0, len(c.values)), c.values)
			check(t, changed, "nothing is changed by", named[i.Op])
		}
	}
}

// TestNilStorage is a part of P10.2: registers and program status word are returned in full.
func TestNilStorage(t *testing.T) {
	c, all := newValid(t, 1)
	for _, i := range all {
		for _, p := range []api.PSW{c.psw, {}, {Mask: 256, CC: 4}} {
			regs, psw, code := decops.Exec(i, c.regs, p, nil)
			check(t, regs == c.regs && psw == p && code == 1, "without a storage", named[i.Op], regs, psw, code)
		}
	}
}

// fieldsOf returns the places of the fields of an instruction.
func fieldsOf(i *api.Ins) []*int {
	return []*int{&i.R1, &i.R2, &i.X2, &i.B1, &i.D1, &i.B2, &i.D2, &i.L1, &i.L2, &i.I2}
}

// TestRefusedFields has each field of each instruction out of its range, and each field that its format does not have (P10.2).
func TestRefusedFields(t *testing.T) {
	c, all := newValid(t, 1)
	refused := 0
	for _, base := range all {
		for k := range fieldsOf(&base) {
			for _, v := range append(far(), 1, 15, 16, 17, 32, 255, 256, 512, 4095, 4096, 4097, 65536) {
				i := base
				*fieldsOf(&i)[k] = v
				if isa.Check(i) != api.OK {
					c.refuse(i, 1)
					refused++
				}
			}
		}
	}
	check(t, refused > 2000, "refused instructions", refused)
}

// TestRefusedByHand has fields that are wrong without asking isa (P10.2).
func TestRefusedByHand(t *testing.T) {
	c, _ := newValid(t, 1)
	for _, i := range []api.Ins{
		convert("CVB", 16, 0, 0, 512), convert("CVB", -1, 0, 0, 512), convert("CVD", 5, 16, 0, 512), convert("CVD", 5, 0, 16, 512), convert("CVD", 5, 0, 0, 4096), convert("CVD", 5, 0, 0, -8),
		{Op: 0x4F, Form: api.FormRS, R1: 5, D2: 512}, {Op: 0x4F, Form: api.FormRX, R1: 5, R2: 1, D2: 512}, {Op: 0x4E, Form: api.FormRX, R1: 5, D1: 1, D2: 512}, {Op: 0x4E, R1: 5, D2: 512},
		{Op: 0xFA, Form: api.FormSS2, L1: 16, L2: 1, D1: 1024, D2: 518}, {Op: 0xFA, Form: api.FormSS2, L1: 3, L2: 16, D1: 1024, D2: 518}, {Op: 0xFA, Form: api.FormSS2, L1: -1, L2: 1, D1: 1024, D2: 518}, {Op: 0xFA, Form: api.FormSS2, L1: 3, L2: -1, D1: 1024, D2: 518},
		{Op: 0xFA, Form: api.FormSS, L1: 3, D1: 1024, D2: 518}, {Op: 0xFA, Form: api.FormSS2, L1: 3, L2: 1, B1: 16, D1: 1024, D2: 518}, {Op: 0xFA, Form: api.FormSS2, L1: 3, L2: 1, D1: 1024, B2: -1, D2: 518}, {Op: 0xFA, Form: api.FormSS2, L1: 3, L2: 1, R1: 1, D1: 1024, D2: 518}, {Op: 0xFA, Form: api.FormSS2, L1: 3, L2: 1, X2: 1, D1: 1024, D2: 518}, {Op: 0xFA, Form: api.FormSS2, L1: 3, L2: 1, I2: 1, D1: 1024, D2: 518},
		{Op: 0xF0, Form: api.FormSS2, L1: 3, L2: 16, D1: 1024, D2: 1}, {Op: 0xF0, Form: api.FormSS2, L1: 3, L2: 1, D1: 1024, D2: 4096},
		{Op: 0xDE, Form: api.FormSS2, L1: 5, D1: 1100, D2: 1024}, {Op: 0xDE, Form: api.FormSS, L1: 256, D1: 1100, D2: 1024}, {Op: 0xDE, Form: api.FormSS, L1: -1, D1: 1100, D2: 1024}, {Op: 0xDF, Form: api.FormSS, L1: 5, L2: 1, D1: 1100, D2: 1024}, {Op: 0xDF, Form: api.FormSS, L1: 5, R1: 1, D1: 1100, D2: 1024},
	} {
		c.refuse(i, 1)
	}
}

// TestRefusedForms gives each instruction each format that it does not have (P10.2).
func TestRefusedForms(t *testing.T) {
	c, all := newValid(t, 1)
	for _, base := range all {
		for _, form := range append(far(), 0, 1, 2, 3, 4, 5, 6, 7, 8, 9, 10, 11, 255) {
			i := base
			i.Form = form
			if form != base.Form {
				c.refuse(i, 1)
			}
		}
	}
}

// TestRefusedCodes has every operation code that is not decimal, those of all other instructions among them, with all formats (P10.2).
func TestRefusedCodes(t *testing.T) {
	c, _ := newValid(t, 1)
	for op := -20; op < 400; op++ {
		for form := 0; form <= 10 && named[op] == ""; form++ {
			c.refuse(api.Ins{Op: op, Form: form}, 1)
			c.refuse(api.Ins{Op: op, Form: form, R1: 2, R2: 4}, 1)
			c.refuse(api.Ins{Op: op, Form: form, R1: 2, D2: 1024}, 1)
			c.refuse(api.Ins{Op: op, Form: form, I2: 7, D1: 1024}, 1)
			c.refuse(api.Ins{Op: op, Form: form, L1: 3, D1: 1024, D2: 518}, 1)
			c.refuse(api.Ins{Op: op, Form: form, L1: 3, L2: 1, D1: 1024, D2: 518}, 1)
		}
	}
	for _, op := range far() {
		c.refuse(api.Ins{Op: op, Form: api.FormSS2, L1: 3, L2: 1, D1: 1024, D2: 518}, 1)
	}
}

// TestRefusedStatus has each field of the program status word out of its range (P10.2).
func TestRefusedStatus(t *testing.T) {
	c, all := newValid(t, 1)
	good := c.psw
	for k, most := range []int{255, 15, 65535, 3, 3, 15, 1<<24 - 1} {
		for _, v := range append(far(), most+1, most+2, 2*most+2) {
			p := good
			fields := []*int{&p.Mask, &p.Key, &p.Code, &p.ILC, &p.CC, &p.Prog, &p.Addr}
			*fields[k] = v
			if v > most || v < 0 {
				c.psw = p
				for _, i := range all {
					c.refuse(i, 1)
				}
			}
		}
	}
}

// TestSeveralRefusals has arguments that are refused together with what would result in another code (P10.2).
func TestSeveralRefusals(t *testing.T) {
	c, _ := newValid(t, 1)
	c.refuse(convert("CVB", 16, 0, 0, 4), 1)
	c.refuse(api.Ins{Op: 0xFA, Form: api.FormSS2, L1: 16, D1: 4095, D2: 4095}, 1)
	c.refuse(api.Ins{Op: 0xFC, Form: api.FormSS2, L1: 1, L2: 16, D1: 1024, D2: 518}, 1)
	c.psw.CC = 4
	c.refuse(convert("CVB", 5, 0, 0, 4), 1)
	c.refuse(api.Ins{Op: 0xFC, Form: api.FormSS2, L1: 1, L2: 1, D1: 1024, D2: 518}, 1)
	c.refuse(api.Ins{Op: 0xDE, Form: api.FormSS, L1: 5, D1: 4095, D2: 1024}, 1)
}

// TestLeftAlone checks that the storage which is passed is the one that is used, and that no other one is kept (R3).
func TestLeftAlone(t *testing.T) {
	c, _ := newValid(t, 1)
	one, other := c.s.Copy(), c.s.Copy()
	decops.Exec(convert("CVD", 5, 0, 0, 104), c.regs, c.psw, one)
	decops.Exec(convert("CVD", 5, 0, 0, 200), c.regs, c.psw, other)
	b, d := one.Bytes(0, 2048), other.Bytes(0, 2048)
	check(t, b[104] == 0 && bytes.Equal(b[200:208], c.values[200:208]), "the first storage", b[104:112], b[200:208])
	check(t, d[200] == 0 && bytes.Equal(d[104:112], c.values[104:112]), "the second storage", d[104:112], d[200:208])
}

// TestSameAgain executes each instruction twice with equal arguments (R4).
func TestSameAgain(t *testing.T) {
	c, all := newValid(t, 1)
	for _, i := range all {
		first, second := c.exec(i), c.exec(i)
		check(t, first.regs == second.regs && first.psw == second.psw && first.code == second.code, "another result of", named[i.Op])
		check(t, bytes.Equal(first.s.Bytes(0, 2048), second.s.Bytes(0, 2048)), "another storage after", named[i.Op])
	}
}

// TestArguments checks that neither the registers nor the program status word nor the instruction of the caller change, also after the results changed (R3).
func TestArguments(t *testing.T) {
	c, all := newValid(t, 1)
	for _, i := range all {
		regs, p, same := c.regs, c.psw, i
		r, q, _ := decops.Exec(i, regs, p, c.s.Copy())
		check(t, regs == c.regs && p == c.psw && i == same, "arguments of", named[i.Op])
		for n := range r {
			r[n]++
		}
		q.CC = 3 - q.CC
		check(t, regs == c.regs && p == c.psw && c.exec(i).code == 0, "arguments after the results changed", named[i.Op])
	}
}
