package decimal_test

import (
	"fmt"
	"math"
	"strings"
	"testing"

	"jobshop/decimal"
)

// show prints the results of a call, bytes and words in hexadecimal.
func show(results ...any) string {
	s := ""
	for i, r := range results {
		if i > 0 {
			s += ", "
		}
		switch v := r.(type) {
		case []byte:
			s += fmt.Sprintf("[%X]", v)
		case uint32:
			s += fmt.Sprintf("%08X", v)
		default:
			s += fmt.Sprint(v)
		}
	}
	return s
}

type example struct{ name, got, want string }

func checkExamples(t *testing.T, rows []example) {
	t.Helper()
	for _, r := range rows {
		if r.got != r.want {
			t.Errorf("%s: %s, want %s", r.name, r.got, r.want)
		}
	}
}

// TestExamples has the rows of the chapter's table of examples. The results of a call are the field or word, the condition code, where the function returns one, and the interruption code.
func TestExamples(t *testing.T) {
	checkExamples(t, []example{
		{"Add of 01 2C and 00 3C", show(decimal.Add(hx("01 2C"), hx("00 3C"))), "[015C], 2, 0"},
		{"Add of 99 9C and 1C", show(decimal.Add(hx("99 9C"), hx("1C"))), "[000C], 3, 10"},
		{"Add of 1C and 01 0C", show(decimal.Add(hx("1C"), hx("01 0C"))), "[1C], 3, 10"},
		{"Add of 5D and 5C", show(decimal.Add(hx("5D"), hx("5C"))), "[0C], 0, 0"},
		{"Sub of 5C and 7C", show(decimal.Sub(hx("5C"), hx("7C"))), "[2D], 1, 0"},
		{"Sub of 0D and 0C", show(decimal.Sub(hx("0D"), hx("0C"))), "[0C], 0, 0"},
		{"Zap(2, 00 01 2D)", show(decimal.Zap(2, hx("00 01 2D"))), "[012D], 1, 0"},
		{"Zap(1, 01 0D)", show(decimal.Zap(1, hx("01 0D"))), "[0D], 3, 10"},
		{"Zap(1, 0D)", show(decimal.Zap(1, hx("0D"))), "[0C], 0, 0"},
		{"Zap(1, 1F)", show(decimal.Zap(1, hx("1F"))), "[1C], 2, 0"},
		{"Compare of 0D and 00 0C", show(decimal.Compare(hx("0D"), hx("00 0C"))), "0, 0"},
		{"Compare of 5D and 1C", show(decimal.Compare(hx("5D"), hx("1C"))), "1, 0"},
		{"Compare of 12 and 1C", show(decimal.Compare(hx("12"), hx("1C"))), "0, 7"},
		{"Multiply of 00 01 2C and 3D", show(decimal.Multiply(hx("00 01 2C"), hx("3D"))), "[00036D], 0"},
		{"Multiply of 01 2C and 3C", show(decimal.Multiply(hx("01 2C"), hx("3C"))), "[], 7"},
		{"Multiply of 2C and 3C", show(decimal.Multiply(hx("2C"), hx("3C"))), "[], 6"},
		{"Divide of 00 01 7D and 5C", show(decimal.Divide(hx("00 01 7D"), hx("5C"))), "[003D2D], 0"},
		{"Divide of 01 7C and 0C", show(decimal.Divide(hx("01 7C"), hx("0C"))), "[], 11"},
		{"Shift(01 2C, 1, 0)", show(decimal.Shift(hx("01 2C"), 1, 0)), "[120C], 2, 0"},
		{"Shift(99 9C, 1, 0)", show(decimal.Shift(hx("99 9C"), 1, 0)), "[990C], 3, 10"},
		{"Shift(12 5C, -1, 5)", show(decimal.Shift(hx("12 5C"), -1, 5)), "[013C], 2, 0"},
		{"Shift(12 4C, -1, 5)", show(decimal.Shift(hx("12 4C"), -1, 5)), "[012C], 2, 0"},
		{"Shift(1C, 0, 10)", show(decimal.Shift(hx("1C"), 0, 10)), "[], 0, 7"},
		{"ToBinary of -123", show(decimal.ToBinary(hx("00 00 00 00 00 00 12 3D"))), "FFFFFF85, 0"},
		{"ToBinary of nine bytes", show(decimal.ToBinary(hx("00 00 00 21 47 48 36 48 1C"))), "00000000, 6"},
		{"FromBinary(2^32 - 1)", show(decimal.FromBinary(math.MaxUint32)), "[000000000000001D]"},
	})
}

// The tests that follow have edge cases whose results are written out.

func nines(n int) string { return strings.Repeat("9", n) }
func zeros(n int) string { return strings.Repeat("0", n) }

// TestSums is P4.1.
func TestSums(t *testing.T) {
	most, least := hx(nines(31)+"C"), hx(nines(31)+"D")
	checkExamples(t, []example{
		{"9 + 0", show(decimal.Add(hx("9C"), hx("0C"))), "[9C], 2, 0"},
		{"9 + 1", show(decimal.Add(hx("9C"), hx("1C"))), "[0C], 3, 10"},
		{"-9 - 1", show(decimal.Sub(hx("9D"), hx("1C"))), "[0D], 3, 10"},
		{"-9 + -9", show(decimal.Add(hx("9D"), hx("9B"))), "[8D], 3, 10"},
		{"8 + 1", show(decimal.Add(hx("8A"), hx("1E"))), "[9C], 2, 0"},
		{"-8 - 1", show(decimal.Sub(hx("8D"), hx("1F"))), "[9D], 1, 0"},
		{"-7 + 3, a longer field", show(decimal.Add(hx("7D"), hx("00 00 00 3C"))), "[4D], 1, 0"},
		{"-0 + -0", show(decimal.Add(hx("0D"), hx("00 0D"))), "[0C], 0, 0"},
		{"-0 - 0", show(decimal.Sub(hx("0B"), hx("0C"))), "[0C], 0, 0"},
		{"twice the largest number", show(decimal.Add(most, most)), "[" + nines(30) + "8C], 3, 10"},
		{"the smallest number - 1", show(decimal.Sub(least, hx("1C"))), "[" + zeros(31) + "D], 3, 10"},
		{"the largest number - 1", show(decimal.Sub(most, hx("1C"))), "[" + nines(30) + "8C], 2, 0"},
		{"the smallest number and the largest", show(decimal.Add(least, most)), "[" + zeros(31) + "C], 0, 0"},
		{"2^64 - 1", show(decimal.Sub(hx("018446744073709551616C"), hx("1C"))), "[018446744073709551615C], 2, 0"},
		{"2^64 - 1 + 1", show(decimal.Add(hx("018446744073709551615C"), hx("1C"))), "[018446744073709551616C], 2, 0"},
		{"1 - 2^64", show(decimal.Sub(hx("1C"), hx("018446744073709551616C"))), "[5D], 3, 10"},
	})
}

// TestCopies is the part of P4.1 about Zap.
func TestCopies(t *testing.T) {
	checkExamples(t, []example{
		{"-999 in 2 bytes", show(decimal.Zap(2, hx("99 9D"))), "[999D], 1, 0"},
		{"-1000 in 2 bytes", show(decimal.Zap(2, hx("01 00 0D"))), "[000D], 3, 10"},
		{"-9 in 1 byte", show(decimal.Zap(1, hx("00 00 9B"))), "[9D], 1, 0"},
		{"7 in 3 bytes", show(decimal.Zap(3, hx("7A"))), "[00007C], 2, 0"},
		{"-0 in 2 bytes", show(decimal.Zap(2, hx("00 00 0B"))), "[000C], 0, 0"},
		{"-1 in 16 bytes", show(decimal.Zap(16, hx("1D"))), "[" + zeros(30) + "1D], 1, 0"},
		{"31 digits in 16 bytes", show(decimal.Zap(16, hx("1234567890123456789012345678901C"))), "[1234567890123456789012345678901C], 2, 0"},
		{"31 digits in 15 bytes", show(decimal.Zap(15, hx("1234567890123456789012345678901C"))), "[34567890123456789012345678901C], 3, 10"},
	})
}

// TestComparisons is P4.2.
func TestComparisons(t *testing.T) {
	checkExamples(t, []example{
		{"0 and -0", show(decimal.Compare(hx("0C"), hx("0B"))), "0, 0"},
		{"-0 and 0", show(decimal.Compare(hx("0D"), hx("00 00 00 0F"))), "0, 0"},
		{"5 and 5", show(decimal.Compare(hx("00 5C"), hx("5A"))), "0, 0"},
		{"-5 and -5", show(decimal.Compare(hx("5B"), hx("00 5D"))), "0, 0"},
		{"5 and -5", show(decimal.Compare(hx("5C"), hx("5D"))), "2, 0"},
		{"-5 and 5", show(decimal.Compare(hx("5D"), hx("5C"))), "1, 0"},
		{"-5 and -6", show(decimal.Compare(hx("5D"), hx("6D"))), "2, 0"},
		{"-6 and -5", show(decimal.Compare(hx("6D"), hx("5D"))), "1, 0"},
		{"9 and 10", show(decimal.Compare(hx("9C"), hx("01 0C"))), "1, 0"},
		{"-0 and -1", show(decimal.Compare(hx("0D"), hx("1D"))), "2, 0"},
		{"the largest number and the smallest", show(decimal.Compare(hx(nines(31)+"C"), hx(nines(31)+"D"))), "2, 0"},
		{"the largest number and one less", show(decimal.Compare(hx(nines(31)+"C"), hx(nines(30)+"8C"))), "2, 0"},
	})
}

// TestProducts is P4.3.
func TestProducts(t *testing.T) {
	checkExamples(t, []example{
		{"9 * 9", show(decimal.Multiply(hx("00 9C"), hx("9C"))), "[081C], 0"},
		{"-9 * -9", show(decimal.Multiply(hx("00 9D"), hx("9B"))), "[081C], 0"},
		{"0 * -3", show(decimal.Multiply(hx("00 0C"), hx("3D"))), "[000D], 0"},
		{"-3 * 0", show(decimal.Multiply(hx("00 3D"), hx("0C"))), "[000D], 0"},
		{"-0 * -0", show(decimal.Multiply(hx("00 0D"), hx("0D"))), "[000C], 0"},
		{"15 nines * 15 nines", show(decimal.Multiply(hx(zeros(16)+nines(15)+"C"), hx(nines(15)+"D"))), "[0" + nines(14) + "8" + zeros(14) + "1D], 0"},
		{"29 nines * 9", show(decimal.Multiply(hx("00"+nines(29)+"D"), hx("9C"))), "[08" + nines(28) + "1D], 0"},
		{"30 digits * 9", show(decimal.Multiply(hx("01"+nines(29)+"D"), hx("9C"))), "[], 7"},
		{"a second byte that is not 0", show(decimal.Multiply(hx("00 10 00 2C"), hx("00 3C"))), "[], 7"},
		{"a third byte that is not 0", show(decimal.Multiply(hx("00 00 10 2C"), hx("00 3C"))), "[0000306C], 0"},
		{"a sign and no digit", show(decimal.Multiply(hx("0C 00 1C"), hx("3C"))), "[], 7"},
		{"8 bytes", show(decimal.Multiply(hx(zeros(16)+"2C"), hx(zeros(14)+"3C"))), "[" + zeros(16) + "6C], 0"},
		{"9 bytes", show(decimal.Multiply(hx(zeros(30)+"2C"), hx(zeros(16)+"3C"))), "[], 6"},
	})
}

// TestQuotients is P4.4.
func TestQuotients(t *testing.T) {
	checkExamples(t, []example{
		{"17 / 5", show(decimal.Divide(hx("00 01 7C"), hx("5C"))), "[003C2C], 0"},
		{"17 / -5", show(decimal.Divide(hx("00 01 7F"), hx("5B"))), "[003D2C], 0"},
		{"-17 / -5", show(decimal.Divide(hx("00 01 7B"), hx("5D"))), "[003C2D], 0"},
		{"-15 / 5", show(decimal.Divide(hx("00 01 5D"), hx("5C"))), "[003D0D], 0"},
		{"2 / -5", show(decimal.Divide(hx("00 2C"), hx("5D"))), "[0D2C], 0"},
		{"-2 / -5", show(decimal.Divide(hx("00 2D"), hx("5D"))), "[0C2D], 0"},
		{"-0 / 5", show(decimal.Divide(hx("00 0D"), hx("5C"))), "[0D0D], 0"},
		{"0 / -5", show(decimal.Divide(hx("00 0C"), hx("5D"))), "[0D0C], 0"},
		{"0 / 0", show(decimal.Divide(hx("00 0C"), hx("0C"))), "[], 11"},
		{"1 / -0", show(decimal.Divide(hx("00 1C"), hx("0D"))), "[], 11"},
		{"49 / 5", show(decimal.Divide(hx("04 9C"), hx("5C"))), "[9C4C], 0"},
		{"50 / 5", show(decimal.Divide(hx("05 0C"), hx("5C"))), "[], 11"},
		{"999 / 1", show(decimal.Divide(hx("00 99 9C"), hx("1C"))), "[999C0C], 0"},
		{"1000 / 1", show(decimal.Divide(hx("01 00 0C"), hx("1C"))), "[], 11"},
		{"31 nines / 15 nines", show(decimal.Divide(hx(nines(31)+"C"), hx(nines(15)+"C"))), "[], 11"},
		{"29 nines / 1", show(decimal.Divide(hx("00"+nines(29)+"D"), hx("1D"))), "[" + nines(29) + "C0D], 0"},
		{"30 nines / 15 nines", show(decimal.Divide(hx("0"+nines(30)+"C"), hx(nines(15)+"C"))), "[], 11"},
		{"15 nines * 15 nines / 15 nines", show(decimal.Divide(hx("0"+nines(14)+"8"+zeros(14)+"1C"), hx(nines(15)+"D"))), "[" + nines(15) + "D" + zeros(15) + "C], 0"},
		{"9 bytes", show(decimal.Divide(hx(zeros(30)+"2C"), hx(zeros(16)+"3C"))), "[], 6"},
		{"9 bytes of zero", show(decimal.Divide(hx(zeros(30)+"2C"), hx(zeros(17)+"C"))), "[], 6"},
		{"invalid by zero", show(decimal.Divide(hx("00 22"), hx("0C"))), "[], 7"},
	})
}

// TestShifts is P4.5.
func TestShifts(t *testing.T) {
	most := hx(nines(31) + "C")
	checkExamples(t, []example{
		{"0 places", show(decimal.Shift(hx("12 5F"), 0, 9)), "[125C], 2, 0"},
		{"-0 by 0 places", show(decimal.Shift(hx("0D"), 0, 0)), "[0C], 0, 0"},
		{"0 by 31 places", show(decimal.Shift(hx("0D"), 31, 0)), "[0C], 0, 0"},
		{"-1 by 31 places", show(decimal.Shift(hx("1D"), 31, 0)), "[0D], 3, 10"},
		{"1 by 31 places in 16 bytes", show(decimal.Shift(hx(zeros(30)+"1C"), 31, 0)), "[" + zeros(31) + "C], 3, 10"},
		{"1 by 30 places in 16 bytes", show(decimal.Shift(hx(zeros(30)+"1C"), 30, 0)), "[1" + zeros(30) + "C], 2, 0"},
		{"31 nines by 31 places", show(decimal.Shift(most, 31, 0)), "[" + zeros(31) + "C], 3, 10"},
		{"31 nines by 30 places", show(decimal.Shift(most, 30, 9)), "[9" + zeros(30) + "C], 3, 10"},
		{"31 nines by -30 places", show(decimal.Shift(most, -30, 0)), "[" + zeros(30) + "9C], 2, 0"},
		{"31 nines by -30 places, rounded", show(decimal.Shift(most, -30, 1)), "[" + zeros(29) + "10C], 2, 0"},
		{"31 nines by -31 places, rounded", show(decimal.Shift(most, -31, 1)), "[" + zeros(30) + "1C], 2, 0"},
		{"31 nines by -31 places", show(decimal.Shift(most, -31, 0)), "[" + zeros(31) + "C], 0, 0"},
		{"31 nines by -32 places", show(decimal.Shift(most, -32, 9)), "[" + zeros(31) + "C], 0, 0"},
		{"-999 by -1 place, rounded", show(decimal.Shift(hx("99 9D"), -1, 5)), "[100D], 1, 0"},
		{"-19 by -2 places", show(decimal.Shift(hx("01 9D"), -2, 8)), "[000C], 0, 0"},
		{"-19 by -2 places, rounded", show(decimal.Shift(hx("01 9D"), -2, 9)), "[001D], 1, 0"},
		{"109 by -2 places: the first dropped digit counts", show(decimal.Shift(hx("10 9C"), -2, 9)), "[001C], 2, 0"},
		{"9 by -1 place, rounded", show(decimal.Shift(hx("9C"), -1, 1)), "[1C], 2, 0"},
		{"9 by -2 places", show(decimal.Shift(hx("9C"), -2, 9)), "[0C], 0, 0"},
		{"by -33 places", show(decimal.Shift(hx("9C"), -33, 0)), "[], 0, 6"},
		{"by 32 places", show(decimal.Shift(hx("9C"), 32, 0)), "[], 0, 6"},
		{"by 32 places, rounded by 10", show(decimal.Shift(hx("9C"), 32, 10)), "[], 0, 6"},
		{"rounded by -1", show(decimal.Shift(hx("9C"), 1, -1)), "[], 0, 7"},
	})
}

// TestBinary is P4.6.
func TestBinary(t *testing.T) {
	checkExamples(t, []example{
		{"2^31 - 1", show(decimal.ToBinary(hx("000002147483647C"))), "7FFFFFFF, 0"},
		{"2^31", show(decimal.ToBinary(hx("000002147483648C"))), "80000000, 9"},
		{"-2^31", show(decimal.ToBinary(hx("000002147483648D"))), "80000000, 0"},
		{"-2^31 - 1", show(decimal.ToBinary(hx("000002147483649D"))), "7FFFFFFF, 9"},
		{"2^32", show(decimal.ToBinary(hx("000004294967296C"))), "00000000, 9"},
		{"2^32 - 1", show(decimal.ToBinary(hx("000004294967295F"))), "FFFFFFFF, 9"},
		{"-2^32 - 1", show(decimal.ToBinary(hx("000004294967297B"))), "FFFFFFFF, 9"},
		{"15 nines", show(decimal.ToBinary(hx("999999999999999C"))), "A4C67FFF, 9"},
		{"-0", show(decimal.ToBinary(hx("000000000000000D"))), "00000000, 0"},
		{"no sign", show(decimal.ToBinary(hx("0000000000000000"))), "00000000, 7"},
		{"FromBinary(0)", show(decimal.FromBinary(0)), "[000000000000000C]"},
		{"FromBinary(2^31 - 1)", show(decimal.FromBinary(math.MaxInt32)), "[000002147483647C]"},
		{"FromBinary(2^31)", show(decimal.FromBinary(1 << 31)), "[000002147483648D]"},
	})
}
