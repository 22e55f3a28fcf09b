package decops_test

import (
	"fmt"
	"strings"
	"testing"

	"jobshop/api"
)

// calculation is an instruction with two fields, and what it leaves: the first field, the condition code (which was 1), and the code with a program mask of 15.
type calculation struct {
	name, first, second string
	want                string
	cc, code            int
}

// checkCalculations executes the instructions with each program mask.
func checkCalculations(t *testing.T, rows []calculation) {
	t.Helper()
	c := newSetting(t, 0)
	for _, r := range rows {
		for mask := range 16 {
			c.psw.Prog = mask
			code := r.code
			if code == 10 && mask&4 == 0 {
				code = 0
			}
			got, cc, gotCode := c.arithmetic(r.name, r.first, r.second)
			check(t, got == r.want && cc == r.cc && gotCode == code, r.name, r.first, r.second, "mask", mask, "leaves", got, cc, gotCode)
		}
	}
}

// TestAddition has AP, SP, ZAP and CP by hand.
func TestAddition(t *testing.T) {
	checkCalculations(t, []calculation{
		{"AP", "01 2C", "00 3C", "01 5C", 2, 0},
		{"AP", "01 2C", "3D", "00 9C", 2, 0},
		{"AP", "01 2D", "3C", "00 9D", 1, 0},
		{"AP", "01 2C", "01 2D", "00 0C", 0, 0},
		{"AP", "01 2D", "01 2C", "00 0C", 0, 0},
		{"AP", "99 9C", "1C", "00 0C", 3, 10},
		{"AP", "99 9D", "1D", "00 0D", 3, 10},
		{"AP", "99 9D", "2D", "00 1D", 3, 10},
		{"AP", "1C", "00 00 1C", "2C", 2, 0},
		{"AP", "1C", "00 01 0C", "1C", 3, 10},
		{"AP", "1C", "00 01 0D", "9D", 1, 0},
		{"SP", "01 2C", "00 3C", "00 9C", 2, 0},
		{"SP", "5C", "7C", "2D", 1, 0},
		{"SP", "5D", "5D", "0C", 0, 0},
		{"SP", "99 9C", "1D", "00 0C", 3, 10},
		{"SP", "99 9D", "1C", "00 0D", 3, 10},
		{"SP", "0D", "0C", "0C", 0, 0},
		{"SP", "1C", "02 0C", "9D", 3, 10},
		{"ZAP", "77 7C", "3D", "00 3D", 1, 0},
		{"ZAP", "77 7C", "12 3F", "12 3C", 2, 0},
		{"ZAP", "77 7C", "01 23 4B", "23 4D", 3, 10},
		{"ZAP", "77 7C", "00 0D", "00 0C", 0, 0},
		{"ZAP", "7C", "01 0D", "0D", 3, 10},
		{"ZAP", "7C", "10 0C", "0C", 3, 10},
		{"ZAP", "AB CD EF", "9C", "00 00 9C", 2, 0},
		{"CP", "01 2C", "12 0C", "01 2C", 1, 0},
		{"CP", "01 2C", "2D", "01 2C", 2, 0},
		{"CP", "01 2F", "01 2A", "01 2F", 0, 0},
		{"CP", "0D", "00 0C", "0D", 0, 0},
		{"CP", "5D", "1C", "5D", 1, 0},
		{"CP", "5D", "9D", "5D", 2, 0},
		{"CP", "1C", "99 99 9C", "1C", 1, 0},
	})
}

// TestProducts has MP and DP by hand; they leave the condition code.
func TestProducts(t *testing.T) {
	checkCalculations(t, []calculation{
		{"MP", "00 01 2C", "3D", "00 03 6D", 1, 0},
		{"MP", "00 01 2D", "3D", "00 03 6C", 1, 0},
		{"MP", "00 01 2B", "3F", "00 03 6D", 1, 0},
		{"MP", "00 00 0C", "3D", "00 00 0D", 1, 0},
		{"MP", "00 00 0D", "3D", "00 00 0C", 1, 0},
		{"MP", "00 99 9C", "9C", "08 99 1C", 1, 0},
		{"MP", "00 9C", "9D", "08 1D", 1, 0},
		{"MP", "01 2C", "3C", "01 2C", 1, 7},
		{"MP", "10 01 2C", "3C", "10 01 2C", 1, 7},
		{"MP", "00 01 2C", "00 3C", "00 01 2C", 1, 7},
		{"MP", "00 00 2C", "00 3C", "00 00 6C", 1, 0},
		{"MP", "00 00 2C", "99 9C", "01 99 8C", 1, 0},
		{"MP", "00 00 00 00 00 00 00 00 99 99 99 99 99 99 99 9C", "99 99 99 99 99 99 99 9C", "09 99 99 99 99 99 99 98 00 00 00 00 00 00 00 1C", 1, 0},
		{"DP", "00 01 7D", "5C", "00 3D 2D", 1, 0},
		{"DP", "00 01 7C", "5D", "00 3D 2C", 1, 0},
		{"DP", "00 01 7D", "5D", "00 3C 2D", 1, 0},
		{"DP", "00 01 5D", "5C", "00 3D 0D", 1, 0},
		{"DP", "00 00 2D", "5C", "00 0D 2D", 1, 0},
		{"DP", "00 00 0D", "5D", "00 0C 0D", 1, 0},
		{"DP", "01 7C", "0C", "01 7C", 1, 11},
		{"DP", "01 7C", "0D", "01 7C", 1, 11},
		{"DP", "01 7C", "1C", "01 7C", 1, 11},
		{"DP", "00 9C", "1C", "9C 0C", 1, 0},
		{"DP", "01 0C", "1C", "01 0C", 1, 11},
		{"DP", "01 9C", "2C", "9C 1C", 1, 0},
		{"DP", "99 99 9C", "99 9C", "99 99 9C", 1, 11},
		{"DP", "00 99 9C", "99 9D", "1D 00 0C", 1, 0},
		{"DP", "00 00 00 00 00 00 00 01 00 00 00 00 00 00 00 0C", "99 99 99 99 99 99 99 9C", "00 00 00 00 00 00 00 1C 00 00 00 00 00 00 00 1C", 1, 0},
	})
}

// TestUnequalLengths has every pair of lengths of MP and DP: n2 must be at most 8 and less than n1.
func TestUnequalLengths(t *testing.T) {
	c := newSetting(t, 0)
	for _, name := range []string{"MP", "DP"} {
		for n1 := 1; n1 <= 16; n1++ {
			for n2 := 1; n2 <= 16; n2++ {
				c.digitsAt(1024, n1, 0xC)
				c.digitsAt(512, n2, 0xD)
				got := c.exec(c.fields(name, n1, 1024, n2, 512))
				check(t, got.code == codeIf(n2 > 8 || n2 >= n1, 6), name, n1, n2, got.code)
			}
		}
	}
}

// TestLeadingZeros has each digit of the first operand of MP: the first n2 bytes must be 0.
func TestLeadingZeros(t *testing.T) {
	c := newSetting(t, 0)
	for n1 := 2; n1 <= 16; n1++ {
		for n2 := 1; n2 <= 8 && n2 < n1; n2++ {
			for place := range 2*n1 - 1 {
				c.set(1024, right("C", 2*n1))
				c.digitsAt(512, n2, 0xC)
				c.fill(1024+place/2, c.values[1024+place/2]|byte(16-15*(place%2)))
				got := c.exec(c.fields("MP", n1, 1024, n2, 512)).code
				check(t, got == codeIf(place < 2*n2, 7), "MP", n1, n2, "with a digit at", place, got)
			}
		}
	}
}

// dataChecked are the instructions whose operands must be valid: both, the second one, or the first one.
var dataChecked = map[string]string{"AP": "both", "SP": "both", "CP": "both", "MP": "both", "DP": "both", "ZAP": "second", "CVB": "second", "SRP": "first"}

// TestSigns has every sign of each operand that must be valid (0 to 9 are none), and what the sign means.
func TestSigns(t *testing.T) {
	c := newSetting(t, 0)
	for _, in := range known {
		operands := dataChecked[in.name]
		for sign := range 16 {
			for other := 10; other < 16; other++ {
				first, second := trial{}.texts(in.name)
				if operands == "both" || operands == "second" {
					got := c.exec(c.withTexts(in.name, withSign(first, other), withSign(second, sign))).code
					check(t, got == codeIf(sign < 10, 7), in.name, "second operand with the sign", sign, got)
				}
				if operands == "both" || operands == "first" {
					got := c.exec(c.withTexts(in.name, withSign(first, sign), withSign(second, other))).code
					check(t, got == codeIf(sign < 10, 7), in.name, "first operand with the sign", sign, got)
				}
			}
		}
	}
	for sign := 10; sign < 16; sign++ {
		minus := sign == 11 || sign == 13
		got, cc, _ := c.arithmetic("ZAP", "00 0C", withSign("12 3C", sign))
		check(t, got == map[bool]string{false: "12 3C", true: "12 3D"}[minus] && cc == map[bool]int{false: 2, true: 1}[minus], "ZAP of the sign", sign, got, cc)
	}
}

// withSign returns the text of a field with another sign.
func withSign(text string, sign int) string {
	return text[:len(text)-1] + fmt.Sprintf("%X", sign)
}

// withTexts stores the operands of an instruction at 1024 and 512 and returns the instruction.
func (c *setting) withTexts(name, first, second string) api.Ins {
	c.t.Helper()
	c.set(1024, first)
	c.set(512, second)
	return c.compose(name, trial{}, 1024, 512)
}

// TestDigits has every place of an operand with a digit above 9. Where a digit is replaced, MP has it among its leading zeros; the code is the same.
func TestDigits(t *testing.T) {
	c := newSetting(t, 0)
	for _, in := range known {
		operands := dataChecked[in.name]
		first, second := trial{}.texts(in.name)
		for digit := 10; digit < 16; digit++ {
			for place := range len(first) - 1 {
				if first[place] != ' ' && (operands == "both" || operands == "first") {
					got := c.exec(c.withTexts(in.name, withDigit(first, place, digit), second)).code
					check(t, got == 7, in.name, "first operand with", digit, "at", place, got)
				}
			}
			for place := range len(second) - 1 {
				if second[place] != ' ' && (operands == "both" || operands == "second") {
					got := c.exec(c.withTexts(in.name, first, withDigit(second, place, digit))).code
					check(t, got == 7, in.name, "second operand with", digit, "at", place, got)
				}
			}
		}
	}
}

func withDigit(text string, place, digit int) string {
	return text[:place] + fmt.Sprintf("%X", digit) + text[place+1:]
}

// TestNotChecked has the instructions that take all digits and signs as they are, and ZAP, which does not fetch its first operand.
func TestNotChecked(t *testing.T) {
	c := newSetting(t, 0)
	for x := range 256 {
		text := fmt.Sprintf("%02X %02X", x, 255-x)
		for _, name := range []string{"PACK", "UNPK", "MVO"} {
			check(t, c.exec(c.withTexts(name, "00 00 00 "+text[:2], text)).code == 0, name, text)
			check(t, c.exec(c.withTexts(name, text+text, text)).code == 0, name, text)
		}
		check(t, c.exec(c.withTexts("ZAP", text+text, "04 5D")).code == 0, "ZAP into", text)
	}
}

// numberOf returns the text of a field of n bytes, of a kind by the first number, with one of the valid signs.
func numberOf(next func(n int) int, n int) string {
	places := 2*n - 1
	var digits string
	switch next(8) {
	case 0:
		digits = "0"
	case 1:
		digits = strings.Repeat("9", places)
	case 2:
		digits = "1" + strings.Repeat("0", next(places))
	case 3:
		digits = strings.Repeat("9", 1+next(places))
	case 4:
		digits = fmt.Sprint(next(100))
	default:
		for range 1 + next(places) {
			digits += fmt.Sprint(next(10))
		}
	}
	return right(digits, places) + "ABCDEFCDCD"[next(10):][:1]
}

// TestAllLengths has operands of every length from 1 to 16 bytes, with all sorts of numbers.
func TestAllLengths(t *testing.T) {
	c := newSetting(t, 0)
	next := numbersFrom(10)
	count := map[string]int{}
	for n1 := 1; n1 <= 16; n1++ {
		for n2 := 1; n2 <= 16; n2++ {
			for round := range 30 {
				for _, name := range []string{"ZAP", "CP", "AP", "SP", "MP", "DP"} {
					c.psw.CC, c.psw.Prog = round%4, masks()[next(4)]
					c.set(1024, numberOf(next, n1))
					if name == "MP" && n2 < n1 {
						c.set(1024, right(numberOf(next, n1-n2), 2*n1))
					}
					c.set(512, numberOf(next, n2))
					r := c.exec(c.fields(name, n1, 1024, n2, 512))
					count[fmt.Sprint(name, " ", r.code, " ", r.psw.CC == 3)]++
				}
			}
		}
	}
	for _, name := range []string{"ZAP", "AP", "SP"} {
		for _, kind := range []string{" 0 true", " 0 false", " 10 true"} {
			check(t, count[name+kind] > 200, "executions of", name+kind, count[name+kind])
		}
	}
	check(t, count["DP 11 false"] > 200 && count["DP 0 false"] > 200 && count["MP 0 false"] > 1000, "products and quotients", count)
}

// TestOverlap has operands of every length at every distance at which they overlap, and beside each other: the first one before and behind the second one. They are valid if they end with the same byte, or do not overlap.
func TestOverlap(t *testing.T) {
	c := newSetting(t, 0)
	next := numbersFrom(11)
	valid := 0
	for n1 := 1; n1 <= 16; n1++ {
		for n2 := 1; n2 <= 16; n2++ {
			for distance := -17; distance <= 17; distance++ {
				c.set(990, strings.Repeat("00", 60))
				for k := range n1 {
					c.fill(1024+k, byte(next(10)*16+next(10))*byte((n1+n2+distance)&1))
				}
				a := 1024 + distance
				c.fill(1024+n1-1, byte(next(10)*16+10+next(6)))
				c.fill(a+n2-1, byte(next(9)*16+16+10+next(6)))
				for _, name := range strings.Fields(twoFields) {
					if c.exec(c.fields(name, n1, 1024, n2, a)).code == 0 && isOneOf(name, "AP SP CP DP MP") {
						valid++
					}
				}
			}
		}
	}
	check(t, valid > 5000, "operands that are valid", valid)
}

// TestOverlapByHand has operands that are one field, and operands of which one is the end of the other.
func TestOverlapByHand(t *testing.T) {
	c := newSetting(t, 0)
	c.psw.CC = 1
	for _, r := range []struct {
		name         string
		n1, a1, n2   int
		a            int
		before, want string
		cc           int
	}{
		{"AP", 4, 1024, 4, 1024, "00 12 34 5C", "00 24 69 0C", 2},
		{"SP", 4, 1024, 4, 1024, "00 12 34 5D", "00 00 00 0C", 0},
		{"ZAP", 4, 1024, 4, 1024, "00 12 34 5F", "00 12 34 5C", 2},
		{"CP", 4, 1024, 4, 1024, "00 12 34 5F", "00 12 34 5F", 0},
		{"AP", 4, 1024, 2, 1026, "00 12 34 5C", "00 12 69 0C", 2},
		{"SP", 2, 1026, 4, 1024, "00 01 34 5D", "00 01 00 0C", 3},
		{"ZAP", 4, 1024, 2, 1026, "00 12 34 5D", "00 00 34 5D", 1},
		{"ZAP", 2, 1026, 3, 1024, "00 12 3C 5D", "00 12 12 3C", 2},
		{"ZAP", 3, 1025, 2, 1024, "12 3C 77 77", "12 00 12 3C", 2},
		{"MP", 4, 1024, 2, 1026, "00 00 12 3C", "00 15 12 9C", 1},
		{"DP", 4, 1024, 2, 1026, "00 09 87 6C", "01 1C 24 0C", 1},
		{"PACK", 4, 1024, 4, 1024, "F1 F2 F3 C4", "00 01 23 4C", 1},
		{"UNPK", 4, 1024, 2, 1026, "77 77 12 3C", "F0 F1 F2 C3", 1},
		{"UNPK", 4, 1024, 4, 1024, "01 23 45 6C", "F3 F4 F5 C6", 1},
		{"MVO", 4, 1024, 3, 1024, "12 34 56 7C", "01 23 45 6C", 1},
		{"MVO", 3, 1025, 4, 1024, "12 34 56 7C", "12 45 67 CC", 1},
	} {
		c.set(1024, r.before)
		got := c.exec(c.fields(r.name, r.n1, r.a1, r.n2, r.a))
		check(t, got.text(1024, 4) == r.want && got.psw.CC == r.cc, "overlap", r, got.text(1024, 4), got.psw.CC)
	}
}
