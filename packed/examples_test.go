package packed_test

import (
	"fmt"
	"testing"

	"jobshop/api"
	"jobshop/packed"
)

// show prints the results of a call, bytes in hexadecimal.
func show(results ...any) string {
	s := ""
	for i, r := range results {
		if i > 0 {
			s += ", "
		}
		switch v := r.(type) {
		case []byte:
			s += fmt.Sprintf("[% X]", v)
		case api.Dec:
			if v.Neg {
				s += "-"
			}
			s += fmt.Sprintf("%q", v.Digits)
		default:
			s += fmt.Sprint(v)
		}
	}
	return s
}

type example struct{ name, got, want string }

func checkExamples(t *testing.T, rows []example) {
	t.Helper()
	for _, r := range rows {
		if r.got != r.want {
			t.Errorf("%s: %s, want %s", r.name, r.got, r.want)
		}
	}
}

// TestExamples has the rows of the chapter's table of examples.
func TestExamples(t *testing.T) {
	minus1234, plus57, minus57 := api.Dec{Neg: true, Digits: "1234"}, api.Dec{Digits: "57"}, api.Dec{Neg: true, Digits: "57"}
	checkExamples(t, []example{
		{"Decode of 01 23 4D", show(packed.Decode([]byte{0x01, 0x23, 0x4D})), `-"1234", true`},
		{"Decode of 00 0C", show(packed.Decode([]byte{0x00, 0x0C})), `"0", true`},
		{"Decode of 0D", show(packed.Decode([]byte{0x0D})), `-"0", true`},
		{"Decode of 12 34", show(packed.Decode([]byte{0x12, 0x34})), `"", false`},
		{"Decode of 1A 2C", show(packed.Decode([]byte{0x1A, 0x2C})), `"", false`},
		{"Encode of -1234 into 3", show(packed.Encode(minus1234, 3)), "[01 23 4D], false"},
		{"Encode of -1234 into 2", show(packed.Encode(minus1234, 2)), "[23 4D], true"},
		{"Encode of -1234 into 1", show(packed.Encode(minus1234, 1)), "[4D], true"},
		{"Encode of -1234 into 17", show(packed.Encode(minus1234, 17)), "[], false"},
		{"Zoned of 57 into 3", show(packed.Zoned(plus57, 3)), "[F0 F5 C7], false"},
		{"Zoned of -57 into 1", show(packed.Zoned(minus57, 1)), "[D7], true"},
		{"Pack of F1 F2 C3 into 3", show(packed.Pack([]byte{0xF1, 0xF2, 0xC3}, 3)), "[00 12 3C]"},
		{"Pack of F1 F2 C3 into 2", show(packed.Pack([]byte{0xF1, 0xF2, 0xC3}, 2)), "[12 3C]"},
		{"Pack of F1 F2 C3 into 1", show(packed.Pack([]byte{0xF1, 0xF2, 0xC3}, 1)), "[3C]"},
		{"Unpack of 12 3C into 4", show(packed.Unpack([]byte{0x12, 0x3C}, 4)), "[F0 F1 F2 C3]"},
		{"Unpack of 12 3C into 2", show(packed.Unpack([]byte{0x12, 0x3C}, 2)), "[F2 C3]"},
		{"Offset of 77 88 9C", show(packed.Offset([]byte{0x77, 0x88, 0x9C}, []byte{0x12, 0x34})), "[01 23 4C]"},
		{"Offset of 9C", show(packed.Offset([]byte{0x9C}, []byte{0x12, 0x34})), "[4C]"},
	})
}

// TestPromiseExamples has the examples of P3.1 that the table does not have.
func TestPromiseExamples(t *testing.T) {
	checkExamples(t, []example{
		{"Valid of -0", show(packed.Valid(api.Dec{Neg: true, Digits: "0"})), "true"},
		{"Valid of 007", show(packed.Valid(api.Dec{Digits: "007"})), "false"},
		{"Valid of no digits", show(packed.Valid(api.Dec{})), "false"},
		{"Valid of 32 digits", show(packed.Valid(api.Dec{Digits: "12345678901234567890123456789012"})), "false"},
		{"Valid of 31 digits", show(packed.Valid(api.Dec{Digits: "1234567890123456789012345678901"})), "true"},
	})
}
