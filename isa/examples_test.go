package isa_test

import (
	"fmt"
	"testing"

	"jobshop/api"
	"jobshop/isa"
)

// show prints the results of a call, bytes in hexadecimal.
func show(results ...any) string {
	s := ""
	for i, r := range results {
		if i > 0 {
			s += ", "
		}
		switch v := r.(type) {
		case []byte:
			s += fmt.Sprintf("[% X]", v)
		default:
			s += fmt.Sprintf("%+v", v)
		}
	}
	return s
}

// TestExamples has the rows of the chapter's table of examples.
func TestExamples(t *testing.T) {
	var none api.Ins
	rows := []struct{ name, got, want string }{
		{"Length(0x1A)", show(isa.Length(0x1A)), "2"},
		{"Length(0x5A)", show(isa.Length(0x5A)), "4"},
		{"Length(0xD2)", show(isa.Length(0xD2)), "6"},
		{"Length(256)", show(isa.Length(256)), "0"},
		{"Encode of AR", show(isa.Encode(api.Ins{Op: 0x1A, Form: api.FormRR, R1: 1, R2: 2})), "[1A 12], 0"},
		{"Encode of L", show(isa.Encode(api.Ins{Op: 0x58, Form: api.FormRX, R1: 3, B2: 12, D2: 0x123})), "[58 30 C1 23], 0"},
		{"Encode of MVC", show(isa.Encode(api.Ins{Op: 0xD2, Form: api.FormSS, L1: 7, B1: 1, B2: 2, D2: 4095})), "[D2 07 10 00 2F FF], 0"},
		{"Encode of AR with FormRX", show(isa.Encode(api.Ins{Op: 0x1A, Form: api.FormRX})), "[], 80"},
		{"Encode of AR with R1 16", show(isa.Encode(api.Ins{Op: 0x1A, Form: api.FormRR, R1: 16})), "[], 6"},
		{"Encode of AR with D1 1", show(isa.Encode(api.Ins{Op: 0x1A, Form: api.FormRR, D1: 1})), "[], 6"},
		{"Decode of 04 5F", show(isa.Decode([]byte{0x04, 0x5F})), show(api.Ins{Op: 0x04, Form: api.FormRR1, R1: 5}, true)},
		{"Decode of 82 99 10 08", show(isa.Decode([]byte{0x82, 0x99, 0x10, 0x08})), show(api.Ins{Op: 0x82, Form: api.FormS, B1: 1, D1: 8}, true)},
		{"Decode of 1A", show(isa.Decode([]byte{0x1A})), show(none, false)},
		{"Decode of 00 00", show(isa.Decode([]byte{0, 0})), show(none, false)},
		{"Decode of no bytes", show(isa.Decode(nil)), show(none, false)},
		{"Name(0x98)", show(isa.Name(0x98)), "LM"},
		{"Find(LM)", show(isa.Find("LM")), "152, true"},
		{"Find(BE)", show(isa.Find("BE")), "0, false"},
		{"Mask(BE)", show(isa.Mask("BE")), "8, false, true"},
		{"Mask(BNER)", show(isa.Mask("BNER")), "7, true, true"},
		{"Mask(LM)", show(isa.Mask("LM")), "0, false, false"},
	}
	for _, r := range rows {
		if r.got != r.want {
			t.Errorf("%s: %s, want %s", r.name, r.got, r.want)
		}
	}
}
