package ccw_test

import (
	"fmt"
	"math"
	"slices"
	"testing"

	"jobshop/api"
	"jobshop/ccw"
)

// check reports the values if the condition is false.
func check(t *testing.T, condition bool, about string, values ...any) {
	t.Helper()
	if !condition {
		t.Error(append([]any{about}, values...)...)
	}
}

// text shows a word with the names of its fields.
func text(word any) string { return fmt.Sprintf("%+v", word) }

func checkEncode(t *testing.T, c api.CCW) {
	t.Helper()
	want, wantErr := wantEncode(c)
	b, err := ccw.Encode(c)
	check(t, digits(b) == want && err == wantErr, "Encode of", text(c), "=", digits(b), int(err), "want", want, int(wantErr))
}

func checkDecode(t *testing.T, b []byte) {
	t.Helper()
	want, wantOK := wantDecode(digits(b))
	c, ok := ccw.Decode(b)
	check(t, c == want && ok == wantOK, "Decode of", digits(b), "=", text(c), ok, "want", text(want), wantOK)
}

func checkEncodeCsw(t *testing.T, s api.CSW) {
	t.Helper()
	want, wantErr := wantEncodeCsw(s)
	b, err := ccw.EncodeCsw(s)
	check(t, digits(b) == want && err == wantErr, "EncodeCsw of", text(s), "=", digits(b), int(err), "want", want, int(wantErr))
}

func checkDecodeCsw(t *testing.T, b []byte) {
	t.Helper()
	want, wantOK := wantDecodeCsw(digits(b))
	s, ok := ccw.DecodeCsw(b)
	check(t, s == want && ok == wantOK, "DecodeCsw of", digits(b), "=", text(s), ok, "want", text(want), wantOK)
}

func checkEncodeCaw(t *testing.T, key, addr int) {
	t.Helper()
	want, wantErr := wantEncodeCaw(key, addr)
	b, err := ccw.EncodeCaw(key, addr)
	check(t, digits(b) == want && err == wantErr, "EncodeCaw of", key, addr, "=", digits(b), int(err), "want", want, int(wantErr))
}

func checkCaw(t *testing.T, b []byte) {
	t.Helper()
	wantKey, wantAddr, wantOK := wantCaw(digits(b))
	key, addr, ok := ccw.Caw(b)
	check(t, key == wantKey && addr == wantAddr && ok == wantOK, "Caw of", digits(b), "=", key, addr, ok, "want", wantKey, wantAddr, wantOK)
}

// checkAll gives b to each function that decodes.
func checkAll(t *testing.T, b []byte) {
	t.Helper()
	checkDecode(t, b)
	checkDecodeCsw(t, b)
	checkCaw(t, b)
}

// far are numbers that no field can have.
func far() []int {
	return []int{
		math.MinInt, math.MinInt + 1, math.MinInt + 8, math.MinInt32, -1 << 32, -1<<32 + 8, -1 << 24, -65536, -256, -16, -8, -2, -1,
		1 << 24, 1<<24 + 1, 1<<24 + 8, math.MaxInt32, 1 << 31, 1 << 32, 1<<32 + 1, 1<<32 + 8, 1 << 56, 1 << 62, math.MaxInt - 7, math.MaxInt - 1, math.MaxInt,
	}
}

// near are values of a number with the greatest value max: both ends, each bit alone, all but it, and some between.
func near(max int) []int {
	values := []int{0, 1, max - 1, max, max / 3, max / 5 * 3}
	for bit := 1; bit <= max; bit *= 2 {
		values = append(values, bit, max-bit)
	}
	slices.Sort(values)
	return slices.Compact(values)
}

// beside are values that a number with the greatest value max cannot have.
func beside(max int) []int {
	return append(far(), max+1, max+2, max+8, 2*max+1, 2*max+2, -max, -max-1, -max-2, 1<<16*(max+1))
}

// edges are the ends of the range and the numbers beside them.
func edges(max int) []int { return []int{-1, 0, 1, max - 1, max, max + 1} }

// combinations returns c with each combination of the flags.
func combinations(c api.CCW) []api.CCW {
	var all []api.CCW
	for n := range 32 {
		c.CD, c.CC, c.SLI, c.Skip, c.PCI = n/16 == 1, n/8%2 == 1, n/4%2 == 1, n/2%2 == 1, n%2 == 1
		all = append(all, c)
	}
	return all
}

// codes are command codes of all directions and codes that are none.
func codes() []int {
	return []int{0x00, 0x01, 0x02, 0x03, 0x04, 0x05, 0x08, 0x0C, 0x10, 0x14, 0x18, 0x1C, 0x47, 0x6E, 0x80, 0x88, 0x94, 0xAC, 0xB9, 0xF0, 0xF4, 0xF8, 0xFC, 0xFF}
}

// numbersFrom returns a function that returns pseudo-random numbers from 0 to n - 1.
func numbersFrom(seed uint64) func(n int) int {
	return func(n int) int {
		seed = seed*6364136223846793005 + 1442695040888963407
		return int(seed>>33) % n
	}
}

// samples are eight bytes each: command words of all directions, words that are none, and status words.
func samples() []string {
	return []string{
		"0200100040000050", "01ABCDEFF8FF0001", "0CFFFFFF0800FFFF", "0800001000000000", "F8FEDCB8FFFFFFFF", "1400000880000100", "E712345628000FF0",
		"0000000000000000", "1000100040000050", "02001000410000A0", "0200100040000000", "FFFFFFFFFFFFFFFF",
		"300010080C400005", "F0FFFFF8FFFFFFFF", "5000100800000000", "5155AA5555AA55AA",
	}
}
