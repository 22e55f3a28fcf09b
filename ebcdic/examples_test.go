package ebcdic_test

import (
	"fmt"
	"testing"

	"jobshop/ebcdic"
)

// show prints the results of a call, numbers and bytes in hexadecimal.
func show(results ...any) string {
	s := ""
	for i, r := range results {
		if i > 0 {
			s += ", "
		}
		switch v := r.(type) {
		case bool:
			s += fmt.Sprint(v)
		case string:
			s += fmt.Sprintf("%q", v)
		case []byte:
			s += fmt.Sprintf("[% X]", v)
		default:
			s += fmt.Sprintf("%X", v)
		}
	}
	return s
}

// TestExamples has the rows of the chapter's table of examples, and the examples of its promises. An error is shown as its number: 1 is ErrArg, 2 is ErrLong, 14 (hexadecimal) is ErrChar.
func TestExamples(t *testing.T) {
	rows := []struct{ name, got, want string }{
		{"Encode of HELLO, 7", show(ebcdic.Encode("HELLO, 7")), "[C8 C5 D3 D3 D6 6B 40 F7], 0"},
		{"Encode of a line feed", show(ebcdic.Encode("\n")), "[], 14"},
		{"Decode of 40 4B FF", show(ebcdic.Decode([]byte{0x40, 0x4B, 0xFF})), `" .."`},
		{"Trim of 40 C1 40 40", show(ebcdic.Trim([]byte{0x40, 0xC1, 0x40, 0x40})), `" A"`},
		{"Trim of 40", show(ebcdic.Trim([]byte{0x40})), `""`},
		{"Pad of nothing to 0", show(ebcdic.Pad("", 0)), "[], 0"},
		{"Pad to -1", show(ebcdic.Pad("A", -1)), "[], 1"},
		{"Pad of a line feed to 1", show(ebcdic.Pad("\n", 1)), "[], 14"},
		{"Pad of a line feed to 0", show(ebcdic.Pad("\n", 0)), "[], 2"},
		{"P2.1, Code", show(ebcdic.Code('A')), "C1, true"},
		{"P2.1, Char", show(ebcdic.Char(0x41)), "0, false"},
		{"P2.2", show(ebcdic.Encode("A1 ")), "[C1 F1 40], 0"},
		{"P2.3, Decode", show(ebcdic.Decode([]byte{0xC1, 0x00, 0x40})), `"A. "`},
		{"P2.3, Trim", show(ebcdic.Trim([]byte{0xC1, 0x00, 0x40})), `"A."`},
		{"P2.4, A", show(ebcdic.Pad("A", 3)), "[C1 40 40], 0"},
		{"P2.4, AB", show(ebcdic.Pad("AB", 1)), "[], 2"},
	}
	for _, r := range rows {
		if r.got != r.want {
			t.Errorf("%s: %s, want %s", r.name, r.got, r.want)
		}
	}
}
