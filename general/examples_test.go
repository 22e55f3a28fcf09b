package general_test

import (
	"fmt"
	"testing"

	"jobshop/api"
	"jobshop/general"
	"jobshop/store"
)

// TestExample is the example of P9.2.
func TestExample(t *testing.T) {
	s, _ := store.New(2048)
	p := api.PSW{Prog: 8, Addr: 1000}
	r := api.Regs{1: 1<<31 - 1, 2: 1}
	r, p, code := general.Exec(api.Ins{Op: 0x1A, Form: api.FormRR, R1: 1, R2: 2}, r, p, s)
	if r != (api.Regs{1: 1 << 31, 2: 1}) || p != (api.PSW{Prog: 8, Addr: 1000, CC: 3}) || code != api.CodeOverflow {
		t.Errorf("AR = %X, %+v, %d", r, p, code)
	}
}

// word returns the word of a negative number.
func word(n int) uint32 { return uint32(n) }

// TestExamples has the rows of the chapter's table of examples: the registers 1 to 3, the condition code, the instruction address and the code, and four bytes from 256 on.
func TestExamples(t *testing.T) {
	rows := []struct {
		name   string
		i      api.Ins
		regs   api.Regs
		memory []byte
		want   string
	}{
		{"LPR", rr("LPR", 1, 2), api.Regs{2: word(-5)}, nil, "5 FFFFFFFB 0, CC 2, 500, 0, 00 00 00 00"},
		{"LPR of -2^31", rr("LPR", 1, 2), api.Regs{2: 1 << 31}, nil, "80000000 80000000 0, CC 3, 500, 0, 00 00 00 00"},
		{"M", rx("M", 2, 0, 0, 256), api.Regs{3: word(-2)}, []byte{0, 0, 0, 3}, "0 FFFFFFFF FFFFFFFA, CC 0, 500, 0, 00 00 00 03"},
		{"D 3", rx("D", 3, 0, 0, 256), api.Regs{3: 7}, nil, "0 0 7, CC 0, 500, 6, 00 00 00 00"},
		{"D 2", rx("D", 2, 0, 0, 256), api.Regs{3: 7}, nil, "0 0 7, CC 0, 500, 9, 00 00 00 00"},
		{"L", rx("L", 1, 0, 0, 257), api.Regs{1: 9}, nil, "9 0 0, CC 0, 500, 6, 00 00 00 00"},
		{"TM of C0", si("TM", 0xC0, 0, 256), api.Regs{}, []byte{0x80}, "0 0 0, CC 1, 500, 0, 80 00 00 00"},
		{"TM of 0", si("TM", 0, 0, 256), api.Regs{}, []byte{0x80}, "0 0 0, CC 0, 500, 0, 80 00 00 00"},
		{"MVC", ss("MVC", 2, 0, 257, 0, 256), api.Regs{}, []byte{1, 2, 3, 4}, "0 0 0, CC 0, 500, 0, 01 01 01 01"},
		{"TRT", ss("TRT", 2, 0, 256, 0, 512), api.Regs{1: 0xAB000000, 2: 0xABCDEF01}, []byte{1, 2, 3}, "AB000101 ABCDEF05 0, CC 1, 500, 0, 01 02 03 00"},
		{"BXLE", rs("BXLE", 2, 4, 0, 700), api.Regs{2: 1, 4: 1, 5: 2}, nil, "0 2 0, CC 0, 700, 0, 00 00 00 00"},
		{"BCTR", rr("BCTR", 1, 0), api.Regs{}, nil, "FFFFFFFF 0 0, CC 0, 500, 0, 00 00 00 00"},
	}
	for _, r := range rows {
		s, _ := store.New(2048)
		s.Put(256, r.memory, 0)
		s.Put(514, []byte{5}, 0)
		regs, p, code := general.Exec(r.i, r.regs, api.PSW{Addr: 500}, s)
		got := fmt.Sprintf("%X %X %X, CC %d, %d, %d, % X", regs[1], regs[2], regs[3], p.CC, p.Addr, code, s.Bytes(256, 4))
		if got != r.want {
			t.Errorf("%s: %s, want %s", r.name, got, r.want)
		}
	}
}
