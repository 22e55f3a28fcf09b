package psw_test

import (
	"fmt"
	"testing"

	"jobshop/api"
	"jobshop/psw"
)

// show prints the results of a call, bytes in hexadecimal.
func show(results ...any) string {
	s := ""
	for i, r := range results {
		if i > 0 {
			s += ", "
		}
		switch v := r.(type) {
		case []byte:
			s += fmt.Sprintf("[% X]", v)
		default:
			s += fmt.Sprintf("%+v", v)
		}
	}
	return s
}

// TestExamples has the rows of the chapter's table of examples, and the examples of its promises.
func TestExamples(t *testing.T) {
	var zero api.PSW
	first := api.PSW{Mask: 255, Key: 3, Wait: true, CC: 2, Addr: 4096}
	one := api.PSW{Mask: 0x40}
	rows := []struct{ name, got, want string }{
		{"Encode", show(psw.Encode(api.PSW{Code: 258, ILC: 3, Prog: 12, Problem: true})), "[00 01 01 02 CC 00 00 00], true"},
		{"Encode of CC 4", show(psw.Encode(api.PSW{CC: 4})), "[], false"},
		{"Encode of Addr -1", show(psw.Encode(api.PSW{Addr: -1})), "[], false"},
		{"Branch, 15, 3", show(psw.Branch(15, 3)), "true"},
		{"Branch, 0, 3", show(psw.Branch(0, 3)), "false"},
		{"Branch, 8, 4", show(psw.Branch(8, 4)), "false"},
		{"Branch, 16, 0", show(psw.Branch(16, 0)), "false"},
		{"Admits, SVC", show(psw.Admits(zero, api.ClassSvc, 0, 0)), "true"},
		{"Admits, data", show(psw.Admits(zero, api.ClassProgram, api.CodeData, 0)), "true"},
		{"Admits, overflow", show(psw.Admits(zero, api.ClassProgram, api.CodeOverflow, 0)), "false"},
		{"Admits, code 0", show(psw.Admits(zero, api.ClassProgram, 0, 0)), "false"},
		{"Admits, code 12", show(psw.Admits(zero, api.ClassProgram, 12, 0)), "false"},
		{"P6.1, Valid", show(psw.Valid(first)), "true"},
		{"P6.1, Encode", show(psw.Encode(first)), "[FF 32 00 00 20 00 10 00], true"},
		{"P6.2, zeros", show(psw.Decode(make([]byte, 8))), show(zero, true)},
		{"P6.2, 00 08", show(psw.Decode([]byte{0, 8, 0, 0, 0, 0, 0, 0})), show(zero, false)},
		{"P6.3, 7, 0", show(psw.Branch(7, 0)), "false"},
		{"P6.3, 7, 1", show(psw.Branch(7, 1)), "true"},
		{"P6.4, channel 1", show(psw.Admits(one, api.ClassIO, 0, 1)), "true"},
		{"P6.4, channel 0", show(psw.Admits(one, api.ClassIO, 0, 0)), "false"},
		{"P6.4, external", show(psw.Admits(one, api.ClassExternal, 0, 1)), "false"},
		{"P6.5", show(psw.Advance(api.PSW{Addr: 1<<24 - 2}, 4)), show(api.PSW{Addr: 2, ILC: 2})},
	}
	for _, r := range rows {
		if r.got != r.want {
			t.Errorf("%s: %s, want %s", r.name, r.got, r.want)
		}
	}
}
