package edit_test

import (
	"bytes"
	"fmt"
	"slices"
	"strings"
	"testing"

	"jobshop/edit"
)

// number is a packed number: its digits, an odd number of them, and its sign from A to F.
type number struct{ digits, sign string }

func (n number) source() []byte { return hx(n.digits + n.sign) }

func (n number) zero() bool { return strings.Trim(n.digits, "0") == "" }

func (n number) minus() bool { return n.sign == "B" || n.sign == "D" }

// leading returns how many leading zeros the number has.
func (n number) leading() int { return len(n.digits) - len(strings.TrimLeft(n.digits, "0")) }

// cc returns the condition code of P5.4.
func (n number) cc() int {
	switch {
	case n.zero():
		return 0
	case n.minus():
		return 1
	}
	return 2
}

// numbers are numbers of many lengths, with all numbers of leading zeros if they are short and some if they are long, and all signs.
func numbers() []number {
	var all []number
	for _, size := range []int{1, 3, 5, 7, 9, 11, 15, 17, 29, 31, 99, 251} {
		for lead := 0; lead < size; lead += 1 + size/32*10 {
			all = append(all, signed(size, lead)...)
		}
		all = append(all, signed(size, size)...)
	}
	return all
}

// signed returns the numbers with each sign that have size digits, of which the first lead ones are zeros.
func signed(size, lead int) []number {
	var all []number
	rest := strings.Repeat("9305000012", 30)[:size-lead]
	for _, sign := range strings.Split("ABCDEF", "") {
		all = append(all, number{strings.Repeat("0", lead) + rest, sign})
	}
	return all
}

// fills are message bytes.
func fills() []string { return []string{"40", "5C", "00", "F0", "1F", "23"} }

// tails are message bytes behind the digits.
func tails() []string { return []string{"", "C3D9", "60", "F1405C"} }

// zoned returns the hexadecimal text of the digits' characters.
func zoned(digits string) string {
	s := ""
	for _, d := range digits {
		s += "F" + string(d)
	}
	return s
}

// shape is a pattern of P5.4: a fill byte, a Select for each digit, and message bytes.
type shape struct{ fill, tail string }

func (f shape) pattern(n number) string { return f.fill + strings.Repeat("20", len(n.digits)) + f.tail }

// want returns the result of P5.4.
func (f shape) want(n number) outcome {
	lead := n.leading()
	w := outcome{text: f.fill + strings.Repeat(f.fill, lead) + zoned(n.digits[lead:]), cc: n.cc(), mark: lead + 1}
	if n.zero() {
		w.mark = -1
	}
	if n.minus() && !n.zero() {
		w.text += f.tail
	} else {
		w.text += strings.Repeat(f.fill, len(f.tail)/2)
	}
	return w
}

func eachShape(f func(shape)) {
	for _, fill := range fills() {
		for _, tail := range tails() {
			f(shape{fill, tail})
		}
	}
}

// TestOneNumber is P5.4.
func TestOneNumber(t *testing.T) {
	eachShape(func(f shape) {
		for _, n := range numbers() {
			if got, want := call(hx(f.pattern(n)), n.source()), f.want(n); got != want {
				t.Errorf("%v of %v = %v, want %v", f, n, got, want)
			}
		}
	})
}

// wantStart returns the result of P5.5 with a Start at the k-th digit.
func (f shape) wantStart(n number, k int) outcome {
	lead := min(n.leading(), k)
	w := outcome{text: f.fill + strings.Repeat(f.fill, lead) + zoned(n.digits[lead:]), cc: n.cc(), mark: -1}
	if n.leading() < k {
		w.mark = n.leading() + 1
	}
	if n.minus() {
		w.text += f.tail
	} else {
		w.text += strings.Repeat(f.fill, len(f.tail)/2)
	}
	return w
}

// TestOneStart is P5.5, for a Start at each digit.
func TestOneStart(t *testing.T) {
	eachShape(func(f shape) {
		for _, n := range numbers() {
			pattern, source := hx(f.pattern(n)), n.source()
			for k := 1; k <= len(n.digits); k += 1 + len(n.digits)/32*5 {
				pattern[k] = edit.Start
				if got, want := call(pattern, source), f.wantStart(n, k); got != want {
					t.Errorf("%v of %v with a Start at digit %d = %v, want %v", f, n, k, got, want)
				}
				pattern[k] = edit.Select
			}
		}
	})
}

// TestTwoNumbers is P5.6.
func TestTwoNumbers(t *testing.T) {
	var short []number
	for _, n := range numbers() {
		if len(n.digits) <= 5 {
			short = append(short, n)
		}
	}
	for _, tail := range tails() {
		first, second := shape{"5C", tail}, shape{"5C", "C4C2"}
		for _, a := range short {
			for _, b := range short {
				pattern := hx(first.pattern(a) + "22" + second.pattern(b)[2:])
				left, right := first.want(a), second.want(b)
				want := outcome{text: left.text + right.text, cc: right.cc, mark: left.mark}
				if right.mark >= 0 {
					want.mark = len(left.text)/2 + right.mark
				}
				if got := call(pattern, slices.Concat(a.source(), b.source())); got != want {
					t.Errorf("%v and %v = %v, want %v", a, b, got, want)
				}
			}
		}
	}
}

// patterns are patterns with all kinds of bytes.
func patterns() [][]byte {
	var all [][]byte
	for _, s := range []string{
		"40 20 20 6B 20 20 21 4B 20 20 40 C3 D9", "5C 20 20 22 20 20 20", "40 20 C1 22 C2 21 20 C3", "21 20 6B 20 C3", "20 20 20 22 20 C3", "22 C3 20 21 20 D9 22 20 20", "C1 C2 C3",
	} {
		all = append(all, hx(s))
	}
	return all
}

// TestText is P5.2.
func TestText(t *testing.T) {
	for _, pattern := range patterns() {
		for _, source := range sources() {
			r, code := edit.Edit(pattern, source)
			if code != 0 {
				continue
			}
			if len(r.Text) != len(pattern) {
				t.Fatalf("[% X] with [% X] = [% X]", pattern, source, r.Text)
			}
			for i, b := range r.Text {
				message := b == pattern[i] && (b < edit.Select || b > edit.Separator)
				if b != pattern[0] && (b < 0xF0 || b > 0xF9) && !message {
					t.Errorf("[% X] with [% X] = [% X]", pattern, source, r.Text)
				}
			}
		}
	}
}

// TestPrefixes is the first sentence of P5.3.
func TestPrefixes(t *testing.T) {
	checked := 0
	for _, pattern := range patterns() {
		for _, source := range sources() {
			r, code := edit.Edit(pattern, source)
			if code != 0 {
				continue
			}
			for n := 1; n <= len(pattern); n++ {
				checked++
				if part, code := edit.Edit(pattern[:n], source); code != 0 || !bytes.Equal(part.Text, r.Text[:n]) {
					t.Errorf("[% X] with [% X] = [% X], %d, want the beginning of [% X]", pattern[:n], source, part.Text, code, r.Text)
				}
			}
		}
	}
	if checked < 300 {
		t.Errorf("only %d prefixes", checked)
	}
}

// needed returns how many bytes of source the pattern needs, and whether they are there.
func needed(pattern, source []byte) (int, bool) {
	for n := range len(source) + 1 {
		if wantEdit(pattern, source[:n]).code == 0 {
			return n, true
		}
	}
	return 0, false
}

// TestNotNeeded is the second sentence of P5.3: the source without the bytes that are not needed, and with others in their place.
func TestNotNeeded(t *testing.T) {
	checked := 0
	for _, pattern := range patterns() {
		for _, source := range sources() {
			n, ok := needed(pattern, source)
			if !ok {
				continue
			}
			checked++
			want := call(pattern, source)
			for _, rest := range []string{"", "00", "0C", "0D", "1C", "99", "A1", "FF", "FF FF FF", "1D 2D 3D"} {
				if got := call(pattern, slices.Concat(source[:n], hx(rest))); got != want || got.code != 0 {
					t.Errorf("[% X] with [% X] and then %q = %v, want %v", pattern, source[:n], rest, got, want)
				}
			}
		}
	}
	if checked < 50 {
		t.Errorf("only %d sources are long enough", checked)
	}
}

// arguments are a pattern and a source that have a result, and some that have a code.
func arguments() [][2]string {
	return [][2]string{
		{"40 20 20 6B 20 21 20 C3 D9", "00 12 3D"},
		{"5C 20 22 20 20 20", "1C 00 5C"},
		{"20", "7D"},
		{"40 20 20", "A1"},
		{"40 20 20 20", "12"},
	}
}

// extended returns a copy of b that has more memory behind it, filled with the byte rest, and all of it.
func extended(b []byte, rest byte) (part, all []byte) {
	all = append(slices.Clone(b), bytes.Repeat([]byte{rest}, 20)...)
	return all[:len(b)], all
}

// TestArgumentsKept checks that Edit neither changes its arguments nor reads or changes what lies beyond their length (R3 of DOC.md).
func TestArgumentsKept(t *testing.T) {
	for _, a := range append(arguments(), [2]string{"", "12 3C"}, [2]string{"40 20", ""}) {
		pattern, source := hx(a[0]), hx(a[1])
		want := call(slices.Clone(pattern), slices.Clone(source))
		for _, rest := range hx("00 0C 20 5D FF") {
			left, allLeft := extended(pattern, rest)
			right, allRight := extended(source, rest)
			if got := call(left, right); got != want {
				t.Errorf("%v = %v before bytes %X, want %v", a, got, rest, want)
			}
			_, sameLeft := extended(pattern, rest)
			_, sameRight := extended(source, rest)
			if !bytes.Equal(allLeft, sameLeft) || !bytes.Equal(allRight, sameRight) {
				t.Errorf("%v: the bytes are % X and % X then", a, allLeft, allRight)
			}
		}
	}
}

// spoil overwrites all memory of b, also that beyond its length.
func spoil(b []byte) {
	b = b[:cap(b)]
	for i := range b {
		b[i] ^= 0xFF
	}
}

// TestArgumentsNotRetained checks that a result does not change with the arguments, nor the arguments with the result, and that the next call does not depend on either (R3, R4).
func TestArgumentsNotRetained(t *testing.T) {
	for _, a := range arguments() {
		pattern, source := hx(a[0]), hx(a[1])
		want := call(hx(a[0]), hx(a[1]))
		r, _ := edit.Edit(pattern, source)
		text := slices.Clone(r.Text)
		spoil(pattern)
		spoil(source)
		if !bytes.Equal(r.Text, text) {
			t.Errorf("%v = % X, and % X after its arguments changed", a, text, r.Text)
		}
		pattern, source = hx(a[0]), hx(a[1])
		r, _ = edit.Edit(pattern, source)
		spoil(r.Text)
		if !bytes.Equal(pattern, hx(a[0])) || !bytes.Equal(source, hx(a[1])) {
			t.Errorf("%v: the arguments are % X and % X after the result changed", a, pattern, source)
		}
		if got := call(pattern, source); got != want {
			t.Errorf("%v = %v, and then %v", a, want, got)
		}
	}
}

// TestSameArgument checks that pattern and source may be the same memory, or overlap (R3).
func TestSameArgument(t *testing.T) {
	all := hx("40 20 21 22 20 20 12 3C 05 0D C3 20 5D")
	for i := range all {
		for j := range all {
			same := slices.Clone(all)
			if got, want := call(all[i:], all[j:]), wantEdit(same[i:], same[j:]); got != want {
				t.Errorf("[% X] with [% X] of the same memory = %v, want %v", same[i:], same[j:], got, want)
			}
			if !bytes.Equal(all, same) {
				t.Fatalf("the memory is [% X] then, want [% X]", all, same)
			}
		}
	}
}

// TestResultsAreNew checks that results share no memory, and that calls do not depend on earlier ones (R3, R4).
func TestResultsAreNew(t *testing.T) {
	for _, a := range arguments() {
		for _, b := range arguments() {
			want := fmt.Sprint(edit.Edit(hx(a[0]), hx(a[1])))
			kept, code := edit.Edit(hx(a[0]), hx(a[1]))
			other, _ := edit.Edit(hx(b[0]), hx(b[1]))
			spoil(other.Text)
			if got := fmt.Sprint(kept, " ", code); got != want {
				t.Errorf("%v = %s, and %s after the result of %v changed", a, want, got, b)
			}
			if got := fmt.Sprint(edit.Edit(hx(a[0]), hx(a[1]))); got != want {
				t.Errorf("%v = %s, and then %s", a, want, got)
			}
		}
	}
}
