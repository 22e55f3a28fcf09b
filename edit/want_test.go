package edit_test

import (
	"encoding/hex"
	"slices"
	"strings"
	"testing"

	"jobshop/api"
	"jobshop/edit"
)

// The expected results are computed on hexadecimal text and without a state that runs along: which digit a byte of the pattern takes follows from the number of Selects and Starts before it, and whether significance is on at a byte follows from the last byte before it that says so.

// hx returns the bytes whose hexadecimal digits are those of s, which may have blanks between them.
func hx(s string) []byte {
	b, err := hex.DecodeString(strings.ReplaceAll(s, " ", ""))
	if err != nil {
		panic(err)
	}
	return b
}

func toHex(b []byte) string { return strings.ToUpper(hex.EncodeToString(b)) }

// outcome has the results of a call, the text in hexadecimal.
type outcome struct {
	text           string
	cc, mark, code int
}

func call(pattern, source []byte) outcome {
	r, code := edit.Edit(pattern, source)
	return outcome{toHex(r.Text), r.CC, r.Mark, code}
}

func check(t *testing.T, pattern, source []byte) {
	t.Helper()
	if got, want := call(pattern, source), wantEdit(pattern, source); got != want {
		t.Errorf("[% X] with [% X] = %v, want %v", pattern, source, got, want)
	}
}

// taken is a digit of the source, and the sign on its right, if there is one.
type taken struct{ digit, sign string }

// digitsOf returns the digits that can be taken from source, and the code at the one after them.
func digitsOf(source []byte) (all []taken, code int) {
	for s := toHex(source); s != ""; s = s[2:] {
		if s[:1] > "9" {
			return all, api.CodeData
		}
		if s[1:2] > "9" {
			all = append(all, taken{s[:1], s[1:2]})
		} else {
			all = append(all, taken{s[:1], ""}, taken{s[1:2], ""})
		}
	}
	return all, api.CodeAddressing
}

// placed is a byte of a pattern, with the digit that it takes; its effect on significance is "+" for on, "-" for off, "" for none.
type placed struct {
	pattern string
	taken
	effect string
}

func effectOf(p placed) string {
	switch {
	case p.pattern == "22", p.sign != "" && strings.Contains("ACEF", p.sign):
		return "-"
	case p.pattern == "21", p.pattern == "20" && p.digit != "0":
		return "+"
	}
	return ""
}

// place gives the digits to the bytes of the pattern, and returns false if there are too few.
func place(pattern []byte, digits []taken) ([]placed, bool) {
	var all []placed
	for s := toHex(pattern); s != ""; s = s[2:] {
		p := placed{pattern: s[:2]}
		if p.pattern == "20" || p.pattern == "21" {
			if len(digits) == 0 {
				return nil, false
			}
			p.taken, digits = digits[0], digits[1:]
		}
		p.effect = effectOf(p)
		all = append(all, p)
	}
	return all, true
}

// significant reports whether significance is on after the bytes.
func significant(all []placed) bool {
	for _, p := range slices.Backward(all) {
		if p.effect != "" {
			return p.effect == "+"
		}
	}
	return false
}

// textOf returns what stands in the result for the byte p.
func textOf(p placed, on bool, fill string) string {
	switch {
	case p.digit != "" && (on || p.digit != "0"):
		return "F" + p.digit
	case p.digit == "" && on && p.pattern != "22":
		return p.pattern
	}
	return fill
}

func wantEdit(pattern, source []byte) outcome {
	if len(pattern) < 1 || len(pattern) > 256 {
		return outcome{code: api.CodeSpecific}
	}
	digits, code := digitsOf(source)
	all, ok := place(pattern, digits)
	if !ok {
		return outcome{code: code}
	}
	w := outcome{mark: -1}
	field := ""
	for i, p := range all {
		on := significant(all[:i])
		w.text += textOf(p, on, all[0].pattern)
		if p.digit > "0" && !on {
			w.mark = i
		}
		field += p.digit
		if p.pattern == "22" {
			field = ""
		}
	}
	if strings.Trim(field, "0") != "" {
		w.cc = 2
		if significant(all) {
			w.cc = 1
		}
	}
	return w
}
