package ccw_test

import (
	"fmt"
	"strconv"

	"jobshop/api"
)

// The expected results are computed on hexadecimal text: a word is a row of hexadecimal digits, and each field a part of it.

// The directions by their numbers, as the chapter's list gives them.
const (
	none = iota
	write
	read
	back
	control
	sense
	jump
)

// wantDirection returns the direction of a code: what its last hexadecimal digit says.
func wantDirection(op int) int {
	if op < 0 || op > 255 {
		return none
	}
	list := map[byte]int{
		'0': none, '1': write, '2': read, '3': control,
		'4': sense, '5': write, '6': read, '7': control,
		'8': jump, '9': write, 'A': read, 'B': control,
		'C': back, 'D': write, 'E': read, 'F': control,
	}
	return list[fmt.Sprintf("%02X", op)[1]]
}

// field is a number of a word: its name, its greatest value, and its value.
type field struct {
	name       string
	max, value int
}

// outside reports whether one of the fields is out of its range.
func outside(fields []field) bool {
	for _, f := range fields {
		if f.value < 0 || f.value > f.max {
			return true
		}
	}
	return false
}

func commandFields(c api.CCW) []field {
	return []field{{"Op", 255, c.Op}, {"Addr", 16777215, c.Addr}, {"Count", 65535, c.Count}}
}

func statusFields(s api.CSW) []field {
	return []field{{"Key", 15, s.Key}, {"Addr", 16777215, s.Addr}, {"Unit", 255, s.Unit}, {"Chan", 255, s.Chan}, {"Count", 65535, s.Count}}
}

// flagged returns whether c has a flag, and its flags as a row of 8 binary digits.
func flagged(c api.CCW) (bool, string) {
	row, some := "", false
	for _, flag := range []bool{c.CD, c.CC, c.SLI, c.Skip, c.PCI} {
		if flag {
			row += "1"
			some = true
		} else {
			row += "0"
		}
	}
	return some, row + "000"
}

// wantEncode returns the digits of c and OK, or an error.
func wantEncode(c api.CCW) (string, api.Errno) {
	if outside(commandFields(c)) {
		return "", 6
	}
	some, row := flagged(c)
	switch wantDirection(c.Op) {
	case none:
		return "", 1
	case jump:
		if some || c.Count != 0 {
			return "", 1
		}
	default:
		if c.Count == 0 {
			return "", 1
		}
	}
	return fmt.Sprintf("%02X%06X%02X00%04X", c.Op, c.Addr, binary(row), c.Count), 0
}

// wantDecode returns the command word with the digits.
func wantDecode(s string) (api.CCW, bool) {
	if len(s) != 16 {
		return api.CCW{}, false
	}
	c := api.CCW{Op: hex(s[:2]), Addr: hex(s[2:8])}
	switch wantDirection(c.Op) {
	case none:
		return api.CCW{}, false
	case jump:
		return c, true
	}
	row := fmt.Sprintf("%08b", hex(s[8:10]))
	if row[5:] != "000" || s[12:] == "0000" {
		return api.CCW{}, false
	}
	c.CD, c.CC, c.SLI, c.Skip, c.PCI = row[0] == '1', row[1] == '1', row[2] == '1', row[3] == '1', row[4] == '1'
	c.Count = hex(s[12:])
	return c, true
}

// wantEncodeCsw returns the digits of s and OK, or an error.
func wantEncodeCsw(s api.CSW) (string, api.Errno) {
	if outside(statusFields(s)) {
		return "", 6
	}
	return fmt.Sprintf("%X0%06X%02X%02X%04X", s.Key, s.Addr, s.Unit, s.Chan, s.Count), 0
}

// wantDecodeCsw returns the status word with the digits.
func wantDecodeCsw(s string) (api.CSW, bool) {
	if len(s) != 16 || s[1] != '0' {
		return api.CSW{}, false
	}
	return api.CSW{Key: hex(s[:1]), Addr: hex(s[2:8]), Unit: hex(s[8:10]), Chan: hex(s[10:12]), Count: hex(s[12:])}, true
}

// multiple reports whether the hexadecimal digit at the end of an address is that of a multiple of 8.
func multiple(digit byte) bool {
	return digit == '0' || digit == '8'
}

// wantEncodeCaw returns the digits of an address word and OK, or an error.
func wantEncodeCaw(key, addr int) (string, api.Errno) {
	if outside([]field{{"key", 15, key}, {"addr", 16777215, addr}}) {
		return "", 6
	}
	s := fmt.Sprintf("%X0%06X", key, addr)
	if !multiple(s[7]) {
		return "", 1
	}
	return s, 0
}

// wantCaw returns the key and the address of the address word with the digits.
func wantCaw(s string) (int, int, bool) {
	if len(s) != 8 || s[1] != '0' || !multiple(s[7]) {
		return 0, 0, false
	}
	return hex(s[:1]), hex(s[2:]), true
}

// hex returns the number with the hexadecimal digits.
func hex(s string) int { return number(s, 16) }

// binary returns the number with the binary digits.
func binary(s string) int { return number(s, 2) }

func number(s string, base int) int {
	n, err := strconv.ParseUint(s, base, 32)
	if err != nil {
		panic(err)
	}
	return int(n)
}

// digits returns the bytes as hexadecimal digits.
func digits(b []byte) string {
	return fmt.Sprintf("%X", b)
}

// bytesOf returns the bytes with the hexadecimal digits.
func bytesOf(s string) []byte {
	b := make([]byte, len(s)/2)
	for k := range b {
		b[k] = byte(hex(s[2*k : 2*k+2]))
	}
	return b
}
