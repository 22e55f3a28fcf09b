package word_test

import (
	"fmt"
	"testing"

	"jobshop/word"
)

// show prints the results of a call, numbers and bytes in hexadecimal.
func show(results ...any) string {
	s := ""
	for i, r := range results {
		if i > 0 {
			s += ", "
		}
		switch v := r.(type) {
		case bool:
			s += fmt.Sprint(v)
		case []byte:
			s += fmt.Sprintf("[% X]", v)
		default:
			s += fmt.Sprintf("%X", v)
		}
	}
	return s
}

type example struct{ name, got, want string }

func checkExamples(t *testing.T, rows []example) {
	t.Helper()
	for _, r := range rows {
		if r.got != r.want {
			t.Errorf("%s: %s, want %s", r.name, r.got, r.want)
		}
	}
}

// TestFieldExamples has the chapter's examples of fields.
func TestFieldExamples(t *testing.T) {
	five := []byte{1, 2, 3, 4, 5}
	put, ok := word.PutHalf([]byte{1, 2, 3}, 1, 0xA0B0)
	checkExamples(t, []example{
		{"Full at 1", show(word.Full(five, 1)), "2030405, true"},
		{"Full at 2", show(word.Full(five, 2)), "0, false"},
		{"Full at -1", show(word.Full(five, -1)), "0, false"},
		{"Half at 1", show(word.Half([]byte{0, 0xFF, 0xFE, 0}, 1)), "FFFFFFFE, true"},
		{"PutHalf at 1", show(put, ok), "[01 A0 B0], true"},
		{"PutFull of it", show(word.PutFull(put, 0, 0xA0B0)), "[], false"},
	})
}

// TestSumExamples has the chapter's examples of sums, comparisons, products and quotients.
func TestSumExamples(t *testing.T) {
	checkExamples(t, []example{
		{"Add of -1 and 1", show(word.Add(0xFFFFFFFF, 1)), "0, 0, false"},
		{"Add of 2^31 - 1 and 1", show(word.Add(0x7FFFFFFF, 1)), "80000000, 3, true"},
		{"Sub", show(word.Sub(0x80000000, 1)), "7FFFFFFF, 3, true"},
		{"Complement", show(word.Complement(0x80000000)), "80000000, 3, true"},
		{"AddLogical", show(word.AddLogical(0xFFFFFFFF, 1)), "0, 2"},
		{"SubLogical of 1 and 2", show(word.SubLogical(1, 2)), "FFFFFFFF, 1"},
		{"SubLogical of 2 and 2", show(word.SubLogical(2, 2)), "0, 2"},
		{"Compare", show(word.Compare(0xFFFFFFFF, 0)), "1"},
		{"CompareLogical", show(word.CompareLogical(0xFFFFFFFF, 0)), "2"},
		{"Test", show(word.Test(0x80000000)), "1"},
		{"Mul", show(word.Mul(0xFFFFFFFE, 3)), "FFFFFFFF, FFFFFFFA"},
		{"Div of -6 by 4", show(word.Div(0xFFFFFFFF, 0xFFFFFFFA, 4)), "FFFFFFFE, FFFFFFFF, true"},
		{"Div of -7 by 2", show(word.Div(0xFFFFFFFF, 0xFFFFFFF9, 2)), "FFFFFFFF, FFFFFFFD, true"},
		{"Div of 2^31 by 1", show(word.Div(0, 0x80000000, 1)), "0, 0, false"},
	})
}

// TestShiftExamples has the chapter's examples of shifts, and shifts by more places than a word has bits.
func TestShiftExamples(t *testing.T) {
	checkExamples(t, []example{
		{"ShiftLeft of 3 by 30", show(word.ShiftLeft(3, 30)), "40000000, 3, true"},
		{"ShiftLeft of 80000001 by 1", show(word.ShiftLeft(0x80000001, 1)), "80000002, 3, true"},
		{"ShiftLeft of C0000000 by 1", show(word.ShiftLeft(0xC0000000, 1)), "80000000, 1, false"},
		{"ShiftLeft of 1 by 64", show(word.ShiftLeft(1, 64)), "1, 2, false"},
		{"ShiftLeft of -1 by 31", show(word.ShiftLeft(0xFFFFFFFF, 31)), "80000000, 1, false"},
		{"ShiftLeft of -1 by 32", show(word.ShiftLeft(0xFFFFFFFF, 32)), "80000000, 3, true"},
		{"ShiftLeft of 0 by 63", show(word.ShiftLeft(0, 63)), "0, 0, false"},
		{"ShiftRight of 80000000 by 31", show(word.ShiftRight(0x80000000, 31)), "FFFFFFFF, 1"},
		{"ShiftRight of 80000000 by 63", show(word.ShiftRight(0x80000000, 63)), "FFFFFFFF, 1"},
		{"ShiftLogical", show(word.ShiftLogical(0x80000000, 31, false)), "1"},
		{"ShiftLogical by -63", show(word.ShiftLogical(5, -63, true)), "A"},
		{"ShiftLeftDouble", show(word.ShiftLeftDouble(0, 0x80000000, 1)), "1, 0, 2, false"},
		{"ShiftRightDouble", show(word.ShiftRightDouble(0x80000000, 0, 32)), "FFFFFFFF, 80000000, 1"},
		{"ShiftLogicalDouble", show(word.ShiftLogicalDouble(1, 0x80000000, 63, true)), "0, 0"},
	})
}
