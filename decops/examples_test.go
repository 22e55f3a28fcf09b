package decops_test

import (
	"fmt"
	"testing"

	"jobshop/api"
	"jobshop/decops"
	"jobshop/store"
)

// TestExample is the example of P10.2.
func TestExample(t *testing.T) {
	s, _ := store.New(2048)
	s.Put(100, []byte{0x99, 0x9C}, 0)
	s.Put(200, []byte{0x1C}, 0)
	r, p, code := decops.Exec(api.Ins{Op: 0xFA, Form: api.FormSS2, L1: 1, L2: 0, D1: 100, D2: 200}, api.Regs{}, api.PSW{Prog: 4, Addr: 1000}, s)
	if r != (api.Regs{}) || p != (api.PSW{Prog: 4, Addr: 1000, CC: 3}) || code != api.CodeDecOver {
		t.Errorf("AP = %X, %+v, %d", r, p, code)
	}
	if got := fmt.Sprintf("% X", s.Bytes(100, 2)); got != "00 0C" {
		t.Errorf("AP leaves %s", got)
	}
}

// TestExamples has the rows of the chapter's table of examples: what they leave of the first operand (or of the bytes at a), the condition code, which was 3 or, where the result is 3, 0, the code, and the registers 1 and 2.
func TestExamples(t *testing.T) {
	fields := func(op, n1, n2 int) api.Ins {
		return api.Ins{Op: op, Form: api.FormSS2, L1: n1 - 1, L2: n2 - 1, D1: 1000, D2: 1500}
	}
	srp := func(digit, a int) api.Ins {
		return api.Ins{Op: 0xF0, Form: api.FormSS2, L1: 1, L2: digit, D1: 1000, D2: a}
	}
	edit := func(op, l1, a1, b2, d2 int) api.Ins {
		return api.Ins{Op: op, Form: api.FormSS, L1: l1, D1: a1, B2: b2, D2: d2}
	}
	rows := []struct {
		name          string
		i             api.Ins
		addr          int
		memory        string
		source        int
		second        string
		before, shown int
		want          string
	}{
		{"CVD at 8", api.Ins{Op: 0x4E, Form: api.FormRX, R1: 2, D2: 8}, 8, "", 0, "", 3, 8, "00 00 00 00 00 00 12 3D, CC 3, code 0, registers 0 FFFFFF85"},
		{"CVD at 12", api.Ins{Op: 0x4E, Form: api.FormRX, R1: 2, D2: 12}, 8, "", 0, "", 3, 8, "00 00 00 00 00 00 00 00, CC 3, code 6, registers 0 FFFFFF85"},
		{"ZAP into 2", fields(0xF8, 2, 3), 1000, "", 1500, "00 01 2D", 3, 2, "01 2D, CC 1, code 0, registers 0 FFFFFF85"},
		{"ZAP into 1", fields(0xF8, 1, 3), 1000, "", 1500, "00 01 2D", 0, 1, "2D, CC 3, code 0, registers 0 FFFFFF85"},
		{"MP", fields(0xFC, 3, 1), 1000, "00 01 2C", 1500, "3D", 3, 3, "00 03 6D, CC 3, code 0, registers 0 FFFFFF85"},
		{"DP", fields(0xFD, 3, 1), 1000, "00 01 7D", 1500, "5C", 3, 3, "00 3D 2D, CC 3, code 0, registers 0 FFFFFF85"},
		{"MP of 2 and 2", fields(0xFC, 2, 2), 1000, "00 2C", 1500, "00 3C", 3, 2, "00 2C, CC 3, code 6, registers 0 FFFFFF85"},
		{"DP by 0", fields(0xFD, 3, 1), 1000, "00 01 7D", 1500, "0C", 3, 3, "00 01 7D, CC 3, code 11, registers 0 FFFFFF85"},
		{"SRP by 63", srp(5, 63), 1000, "12 5C", 0, "", 3, 2, "01 3C, CC 2, code 0, registers 0 FFFFFF85"},
		{"SRP with 10", srp(10, 1), 1000, "12 5C", 0, "", 3, 2, "12 5C, CC 3, code 7, registers 0 FFFFFF85"},
		{"EDMK", edit(0xDF, 3, 100, 0, 200), 100, "40 20 20 20", 200, "00 5D", 3, 4, "40 40 40 F5, CC 1, code 0, registers 67 FFFFFF85"},
		{"ED of 12", edit(0xDE, 2, 100, 0, 2047), 100, "40 20 20", 2047, "12", 3, 3, "40 F1 F2, CC 1, code 0, registers 0 FFFFFF85"},
		{"ED of 1C", edit(0xDE, 2, 100, 0, 2047), 100, "40 20 20", 2047, "1C", 3, 3, "40 20 20, CC 3, code 5, registers 0 FFFFFF85"},
	}
	for _, r := range rows {
		s, _ := store.New(2048)
		s.Put(r.addr, bytesOf(r.memory), 0)
		s.Put(r.source, bytesOf(r.second), 0)
		regs, p, code := decops.Exec(r.i, api.Regs{2: 1<<32 - 123}, api.PSW{CC: r.before, Addr: 500}, s)
		got := fmt.Sprintf("% X, CC %d, code %d, registers %X %X", s.Bytes(r.addr, r.shown), p.CC, code, regs[1], regs[2])
		if got != r.want || p.Addr != 500 {
			t.Errorf("%s: %s, want %s", r.name, got, r.want)
		}
	}
}
