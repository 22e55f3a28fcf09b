package edit_test

import (
	"fmt"
	"strings"
	"testing"

	"jobshop/api"
	"jobshop/edit"
)

// row is a call whose results are written out: the text in hexadecimal, the condition code and the mark, or the interruption code alone.
type row struct{ name, pattern, source, want string }

func (o outcome) String() string {
	if o.code != api.CodeNone && o == (outcome{code: o.code}) {
		return fmt.Sprintf("code %d", o.code)
	}
	s := fmt.Sprintf("% X; %d, %d", hx(o.text), o.cc, o.mark)
	if o.code != api.CodeNone {
		s += fmt.Sprintf(", code %d", o.code)
	}
	return s
}

func checkRows(t *testing.T, rows []row) {
	t.Helper()
	for _, r := range rows {
		pattern, source := hx(r.pattern), hx(r.source)
		if got := call(pattern, source).String(); got != r.want {
			t.Errorf("%s: %s, want %s", r.name, got, r.want)
		}
		check(t, pattern, source)
	}
}

// TestConstants has the control bytes and the limit of section Terms.
func TestConstants(t *testing.T) {
	if got, want := [4]int{edit.Select, edit.Start, edit.Separator, edit.MaxPattern}, [4]int{0x20, 0x21, 0x22, 256}; got != want {
		t.Errorf("Select, Start, Separator and MaxPattern are %X, want %X", got, want)
	}
}

// TestExamples has the rows of the chapter's table of examples, and the example of P5.1.
func TestExamples(t *testing.T) {
	amount := "40 20 20 6B 20 20 21 4B 20 20 40 C3 D9"
	checkRows(t, []row{
		{"2574.26", amount, "02 57 42 6C", "40 40 F2 6B F5 F7 F4 4B F2 F6 40 40 40; 2, 2"},
		{"-0.26", amount, "00 00 02 6D", "40 40 40 40 40 40 40 4B F2 F6 40 C3 D9; 1, -1"},
		{"0.00", amount, "00 00 00 0C", "40 40 40 40 40 40 40 4B F0 F0 40 40 40; 0, -1"},
		{"two fields", "5C 20 20 22 20 20 20", "1C 0C 00 0C", "5C F1 5C 5C 5C 5C 5C; 0, 1"},
		{"without a fill byte of its own", "20 20", "12", "F1 F2; 1, 0"},
		{"a left half that is no digit", "20 20", "A1", "code 7"},
		{"no source", "20 20", "", "code 5"},
		{"no bytes", "", "", "code 6"},
		{"257 bytes", strings.Repeat("40", 257), "", "code 6"},
		{"-5", "40 20 20 20 C3 D9", "00 5D", "40 40 40 F5 C3 D9; 1, 3"},
	})
}

// TestSigns has each sign behind a digit other than zero, behind zeros, and behind a zero with a Start.
func TestSigns(t *testing.T) {
	for _, sign := range strings.Split("ACEF", "") {
		checkRows(t, []row{
			{"plus " + sign, "40 20 20 20 C3 D9", "12 3" + sign, "40 F1 F2 F3 40 40; 2, 1"},
			{"plus behind zeros " + sign, "40 20 20 20 C3 D9", "00 0" + sign, "40 40 40 40 40 40; 0, -1"},
			{"plus behind zeros, with a Start " + sign, "40 20 21 20 C3 D9", "00 0" + sign, "40 40 40 F0 40 40; 0, -1"},
			{"plus at a Start " + sign, "40 20 20 21 C3 D9", "12 3" + sign, "40 F1 F2 F3 40 40; 2, 1"},
			{"plus at a Start with zero " + sign, "40 21 C3", "0" + sign, "40 40 40; 0, -1"},
		})
	}
	for _, sign := range strings.Split("BD", "") {
		checkRows(t, []row{
			{"minus " + sign, "40 20 20 20 C3 D9", "12 3" + sign, "40 F1 F2 F3 C3 D9; 1, 1"},
			{"minus behind zeros " + sign, "40 20 20 20 C3 D9", "00 0" + sign, "40 40 40 40 40 40; 0, -1"},
			{"minus behind zeros, with a Start " + sign, "40 20 21 20 C3 D9", "00 0" + sign, "40 40 40 F0 C3 D9; 0, -1"},
			{"minus at a Start " + sign, "40 20 20 21 C3 D9", "00 3" + sign, "40 40 40 F3 C3 D9; 1, 3"},
			{"minus at a Start with zero " + sign, "40 21 C3", "0" + sign, "40 40 C3; 0, -1"},
		})
	}
}

// TestFirstBytes has each kind of byte as the fill byte.
func TestFirstBytes(t *testing.T) {
	checkRows(t, []row{
		{"a message byte alone", "5C", "", "5C; 0, -1"},
		{"a Select alone, 0", "20", "0C", "20; 0, -1"},
		{"a Select alone, 7", "20", "7C", "F7; 2, 0"},
		{"a Select alone, -7", "20", "7D", "F7; 1, 0"},
		{"a Start alone, 0", "21", "0D", "21; 0, -1"},
		{"a Start alone, -7", "21", "7D", "F7; 1, 0"},
		{"a Start alone, without a sign", "21", "00", "21; 0, -1"},
		{"a Separator alone", "22", "", "22; 0, -1"},
		{"Selects", "20 20 20 C3", "00 5D", "20 20 F5 C3; 1, 2"},
		{"a Select, zero", "20 20 20 C3", "00 0C", "20 20 20 20; 0, -1"},
		{"a Start", "21 20 20 C3", "00 5C", "21 F0 F5 21; 2, -1"},
		{"a Separator", "22 20 20 20 C3", "00 5C", "22 22 22 F5 22; 2, 3"},
		{"a digit as message byte", "F0 20 20 20", "00 5D", "F0 F0 F0 F5; 1, 3"},
		{"the byte 0", "00 20 20 20 00", "00 5D", "00 00 00 F5 00; 1, 3"},
		{"the byte before Select", "1F 1F 20 1F", "5D", "1F 1F F5 1F; 1, 2"},
		{"the byte after Separator", "23 23 20 23", "5D", "23 23 F5 23; 1, 2"},
	})
}

// TestHalves has digits at left and right halves, and signs that only a left digit passes.
func TestHalves(t *testing.T) {
	checkRows(t, []row{
		{"a digit at the left, then a sign", "40 20 C3", "5C", "40 F5 40; 2, 1"},
		{"a digit at the right", "40 20 20 C3", "05", "40 40 F5 C3; 1, 2"},
		{"zero at the right", "40 20 20 C3", "50", "40 F5 F0 C3; 1, 1"},
		{"zeros at both sides", "40 20 20 C3", "00", "40 40 40 40; 0, -1"},
		{"the right half not taken", "40 20 C3", "59", "40 F5 C3; 1, 1"},
		{"9 at the left", "40 20", "9C", "40 F9; 2, 1"},
		{"9 at the right", "40 20 20", "09", "40 40 F9; 1, 2"},
		{"more than one byte", "40 20 20 20 20 20", "10 20 3C", "40 F1 F0 F2 F0 F3; 2, 1"},
		{"two numbers in one field", "40 20 20 20 20 C3", "1C 02 3D", "40 F1 40 F2 F3 C3; 1, 3"},
		{"a number that ends at the left, and one after it", "40 20 20 20 C3", "1C 05", "40 F1 40 F5 C3; 1, 3"},
		{"a minus sign does not turn significance off", "40 20 20 20 C3", "1D 05", "40 F1 F0 F5 C3; 1, 1"},
	})
}

// TestStarts has a Start at the first digit, in the middle and at the last one.
func TestStarts(t *testing.T) {
	checkRows(t, []row{
		{"at the first digit", "40 21 20 20 C3", "00 5D", "40 40 F0 F5 C3; 1, -1"},
		{"at the first digit, not zero", "40 21 20 20 C3", "10 5D", "40 F1 F0 F5 C3; 1, 1"},
		{"in the middle", "40 20 21 20 C3", "00 5D", "40 40 40 F5 C3; 1, -1"},
		{"in the middle, not zero there", "40 20 21 20 C3", "03 0D", "40 40 F3 F0 C3; 1, 2"},
		{"in the middle, not zero before", "40 20 21 20 C3", "20 0C", "40 F2 F0 F0 40; 2, 1"},
		{"at the last digit", "40 20 20 21 C3", "00 5D", "40 40 40 F5 C3; 1, 3"},
		{"at the last digit, zero", "40 20 20 21 C3", "00 0D", "40 40 40 40 C3; 0, -1"},
		{"at all digits", "40 21 21 21 C3", "00 0D", "40 40 F0 F0 C3; 0, -1"},
		{"before a message byte", "40 21 6B 20 20", "00 0C", "40 40 6B F0 F0; 0, -1"},
		{"in a field before", "40 21 22 20 20 20 C3", "0D 00 5C", "40 40 40 40 40 F5 40; 2, 5"},
	})
}

// TestMessages has message bytes before any digit, between digits, and behind the sign.
func TestMessages(t *testing.T) {
	checkRows(t, []row{
		{"no digits", "40 C1 C2 C3", "12 3D", "40 40 40 40; 0, -1"},
		{"before any digit", "5C C1 C2 20 20 20", "12 3C", "5C 5C 5C F1 F2 F3; 2, 3"},
		{"between zeros", "40 20 6B 20 20", "00 3C", "40 40 40 40 F3; 2, 4"},
		{"between digits", "40 20 6B 20 20", "10 3C", "40 F1 6B F0 F3; 2, 1"},
		{"between digits and behind plus", "5C 20 6B 20 20 C3 D9", "10 3C", "5C F1 6B F0 F3 5C 5C; 2, 1"},
		{"between digits and behind minus", "5C 20 6B 20 20 C3 D9", "10 3D", "5C F1 6B F0 F3 C3 D9; 1, 1"},
		{"behind a Separator", "40 20 C1 22 C2 20 C3", "5D 5D", "40 F5 C1 40 40 F5 C3; 1, 5"},
		{"between plus and the next number", "40 20 C1 20 C2", "5C 5D", "40 F5 40 F5 C2; 1, 3"},
		{"the fill byte again", "40 20 40 20 40", "50", "40 F5 40 F0 40; 1, 1"},
	})
}

// TestFields has Separators, and marks in the first field, in a later one, and in none.
func TestFields(t *testing.T) {
	checkRows(t, []row{
		{"a mark in the first field", "40 20 22 21 20 20", "5C 00 5C", "40 F5 40 40 F0 F5; 2, 1"},
		{"a mark in the second field", "40 20 22 20 20 20", "0C 01 5C", "40 40 40 40 F1 F5; 2, 4"},
		{"a mark in both", "40 20 22 20 20 20", "7C 01 5D", "40 F7 40 40 F1 F5; 1, 4"},
		{"no mark", "40 21 20 20 22 21 20 20", "00 5C 01 2D", "40 40 F0 F5 40 40 F1 F2; 1, -1"},
		{"three fields", "40 20 C1 22 20 20 20 C2 22 20 C3", "1D 02 0C 3D", "40 F1 C1 40 40 F2 F0 40 40 F3 C3; 1, 9"},
		{"the last field zero, with a minus sign", "40 20 C1 22 20 C2", "1D 0D", "40 F1 C1 40 40 40; 0, 1"},
		{"the last field without digits", "40 20 20 22 C3", "12", "40 F1 F2 40 40; 0, 1"},
		{"a Separator at the end", "40 20 22", "5D", "40 F5 40; 0, 1"},
		{"two Separators", "40 20 22 22 20", "5D 0C", "40 F5 40 40 40; 0, 1"},
		{"a Separator within a number", "40 20 22 20 C3", "50", "40 F5 40 40 40; 0, 1"},
		{"a Separator within a number, not zero behind it", "40 20 22 20 C3", "57", "40 F5 40 F7 C3; 1, 3"},
		{"a field that is zero behind its number", "40 20 20 C3", "5C 0D", "40 F5 40 40; 2, 1"},
	})
}

// TestCodes has the invalid arguments of P5.1, where several codes apply, too.
func TestCodes(t *testing.T) {
	long := strings.Repeat("20", 257)
	checkRows(t, []row{
		{"no pattern, but a source", "", "12 3C", "code 6"},
		{"no pattern, and a source that is no number", "", "A1", "code 6"},
		{"a long pattern without a source", long, "", "code 6"},
		{"a long pattern and a source that is no number", long, "A1", "code 6"},
		{"a long pattern and a source that is long enough", long, strings.Repeat("11", 129), "code 6"},
		{"a long pattern of message bytes", strings.Repeat("5C", 300), "12 3C", "code 6"},
		{"no source", "40 20", "", "code 5"},
		{"no source, a Start", "40 21", "", "code 5"},
		{"no source, and no digit", "40 22 C3", "", "40 40 40; 0, -1"},
		{"a source that ends behind a sign", "40 20 20", "1C", "code 5"},
		{"a source that ends behind a right half", "40 20 20 20", "12", "code 5"},
		{"a source that ends before the last digit", "40 20 20 20 22 20 C3", "12 3C", "code 5"},
		{"a left half that is no digit", "40 20", "A0", "code 7"},
		{"a left half that is no digit, and a sign", "40 20", "CC", "code 7"},
		{"a left half that is no digit, at a Start", "40 21", "F1", "code 7"},
		{"a left half that is no digit, at the second byte", "40 20 20 20", "12 A3", "code 7"},
		{"a left half that is no digit, not needed", "40 20 20", "12 A3", "40 F1 F2; 1, 1"},
		{"a left half that is no digit, not needed behind a sign", "40 20 C3", "1C FF", "40 F1 40; 2, 1"},
		{"a left half that is no digit, no digit taken", "40 C3", "FF", "40 40; 0, -1"},
		{"no digit, then too short", "40 20 20 20 20", "1C A0", "code 7"},
		{"no digit, although a Separator follows", "40 20 22 20", "B1 1C", "code 7"},
		{"the end of the source before a left half that is no digit", "40 20 20", "0D", "code 5"},
	})
}
