package packed_test

import (
	"bytes"
	"encoding/hex"
	"fmt"
	"math"
	"strings"
	"testing"

	"jobshop/api"
	"jobshop/packed"
)

// The expected results are computed on the hexadecimal digits of fields as text.

func toHex(b []byte) string { return strings.ToUpper(hex.EncodeToString(b)) }

func fromHex(s string) []byte {
	b, err := hex.DecodeString(s)
	if err != nil {
		panic(err)
	}
	return b
}

// fit returns the last n characters of s, with zeros on the left if s has fewer.
func fit(s string, n int) string {
	s = strings.Repeat("0", n) + s
	return s[len(s)-n:]
}

// zone returns the digits of a zoned field, with the sign as the last zone.
func zone(digits, sign string) string {
	s := ""
	for i := range len(digits) - 1 {
		s += "F" + digits[i:i+1]
	}
	return s + sign + digits[len(digits)-1:]
}

func wantDecode(b []byte) (api.Dec, bool) {
	s := toHex(b)
	if len(b) < 1 || len(b) > 16 {
		return api.Dec{}, false
	}
	digits, sign := s[:len(s)-1], s[len(s)-1:]
	if strings.ContainsAny(digits, "ABCDEF") || !strings.Contains("ABCDEF", sign) {
		return api.Dec{}, false
	}
	for len(digits) > 1 && digits[0] == '0' {
		digits = digits[1:]
	}
	return api.Dec{Neg: sign == "B" || sign == "D", Digits: digits}, true
}

func wantSign(d api.Dec) string {
	if d.Neg {
		return "D"
	}
	return "C"
}

func wantEncode(d api.Dec, n int) (string, bool) {
	return fit(d.Digits, 2*n-1) + wantSign(d), len(d.Digits) > 2*n-1
}

func wantZoned(d api.Dec, n int) (string, bool) {
	return zone(fit(d.Digits, n), wantSign(d)), len(d.Digits) > n
}

func wantPack(b []byte, n int) string {
	s := toHex(b)
	digits := ""
	for i := 1; i < len(s); i += 2 {
		digits += s[i : i+1]
	}
	return fit(digits+s[len(s)-2:len(s)-1], 2*n)
}

func wantUnpack(b []byte, n int) string {
	s := toHex(b)
	return zone(fit(s[:len(s)-1], n), s[len(s)-1:])
}

func wantOffset(dst, src []byte) string {
	s := toHex(dst)
	return fit(toHex(src)+s[len(s)-1:], len(s))
}

// numbers are valid decimal numbers of all lengths, with both signs.
func numbers() []api.Dec {
	texts := []string{"0", "10", "57", "99", "100", "1234"}
	for d := 1; d <= 9; d++ {
		texts = append(texts, fmt.Sprint(d))
	}
	for n := 1; n <= 31; n++ {
		texts = append(texts,
			strings.Repeat("1234567890", 4)[:n],
			strings.Repeat("9", n),
			"8"+strings.Repeat("0", n-1),
			"5"+strings.Repeat("0072", 8)[:n-1])
	}
	var all []api.Dec
	for _, s := range texts {
		all = append(all, api.Dec{Digits: s}, api.Dec{Neg: true, Digits: s})
	}
	return all
}

// notNumbers are decimal numbers that are not valid.
func notNumbers() []api.Dec {
	texts := []string{
		"", "00", "01", "007", "-1", "+1", "-0", " 1", "1 ", "1.5", "1C", "A", "c", "\x00", "\u0661", "1\xff",
		strings.Repeat("1", 32), strings.Repeat("9", 1000), "1" + strings.Repeat("0", 31),
		strings.Repeat("0", 31), strings.Repeat("0", 32), "0" + strings.Repeat("1", 30), "0" + strings.Repeat("1", 31),
	}
	for c := range 256 {
		if x := string([]byte{byte(c)}); x < "0" || x > "9" {
			texts = append(texts, x, x+"12", "1"+x+"2", "12"+x, strings.Repeat("7", 30)+x)
		}
	}
	var all []api.Dec
	for _, s := range texts {
		all = append(all, api.Dec{Digits: s}, api.Dec{Neg: true, Digits: s})
	}
	return all
}

// wrongSizes are numbers of bytes that no field has.
func wrongSizes() []int {
	return []int{0, -1, -2, -16, 17, 18, 32, 255, 256, 257, math.MaxInt, math.MaxInt - 1, 1 << 62, 1<<62 + 1, math.MinInt, math.MinInt + 1, 1 << 32, 1<<32 + 1}
}

// patterns are fields of n bytes whose digits differ, or are all the same.
func patterns(n int) [][]byte {
	up, mixed := make([]byte, n), make([]byte, n)
	for i := range n {
		up[i] = byte(0x12 + 0x22*i)
		mixed[i] = byte(0xA7 + 0x5D*i)
	}
	return [][]byte{up, mixed, bytes.Repeat([]byte{0x00}, n), bytes.Repeat([]byte{0xFF}, n), bytes.Repeat([]byte{0xA5}, n), bytes.Repeat([]byte{0x5A}, n)}
}

// TestValid is P3.1.
func TestValid(t *testing.T) {
	for _, d := range numbers() {
		if !packed.Valid(d) {
			t.Errorf("Valid of %v = false", d)
		}
	}
	for _, d := range notNumbers() {
		if packed.Valid(d) {
			t.Errorf("Valid of %q = true", d.Digits)
		}
	}
}

func checkDecode(t *testing.T, b []byte) {
	t.Helper()
	want, wantOK := wantDecode(b)
	if d, ok := packed.Decode(b); d != want || ok != wantOK {
		t.Errorf("Decode of % X = %v, %v, want %v, %v", b, d, ok, want, wantOK)
	}
}

// TestDecodeShort has all fields of one and of two bytes (P3.2).
func TestDecodeShort(t *testing.T) {
	for i := range 256 {
		checkDecode(t, []byte{byte(i)})
		for j := range 256 {
			checkDecode(t, []byte{byte(i), byte(j)})
		}
	}
}

// TestDecodeDigits has fields of all lengths with each of the 16 digits at each place (P3.2).
func TestDecodeDigits(t *testing.T) {
	for n := 1; n <= 16; n++ {
		for _, base := range []string{fit("C", 2*n), fit(strings.Repeat("9876543210", 4)+"D", 2*n)} {
			checkDecode(t, fromHex(base))
			for i := range 2 * n {
				for _, digit := range "0123456789ABCDEF" {
					checkDecode(t, fromHex(base[:i]+string(digit)+base[i+1:]))
				}
			}
		}
	}
}

// TestDecodeSigns has the six signs and the digits that are none (P3.2).
func TestDecodeSigns(t *testing.T) {
	want := map[byte]api.Dec{
		0xA: {Digits: "5"}, 0xC: {Digits: "5"}, 0xE: {Digits: "5"}, 0xF: {Digits: "5"},
		0xB: {Neg: true, Digits: "5"}, 0xD: {Neg: true, Digits: "5"},
	}
	for sign := byte(0); sign < 16; sign++ {
		_, wantOK := want[sign]
		if d, ok := packed.Decode([]byte{0x50 | sign}); d != want[sign] || ok != wantOK {
			t.Errorf("Decode of %X = %v, %v, want %v, %v", 0x50|sign, d, ok, want[sign], wantOK)
		}
	}
}

// TestDecodeFails has fields that are too short or too long (P3.2).
func TestDecodeFails(t *testing.T) {
	for _, b := range [][]byte{nil, {}, fromHex(fit("1C", 34)), fromHex(fit("C", 36)), fromHex(fit("C", 1000)), bytes.Repeat([]byte{0x1C}, 17)} {
		if d, ok := packed.Decode(b); d != (api.Dec{}) || ok {
			t.Errorf("Decode of %d bytes = %v, %v", len(b), d, ok)
		}
	}
}

type encoder struct {
	name string
	call func(api.Dec, int) ([]byte, bool)
	want func(api.Dec, int) (string, bool)
}

func encoders() []encoder {
	return []encoder{{"Encode", packed.Encode, wantEncode}, {"Zoned", packed.Zoned, wantZoned}}
}

// TestEncoders has P3.3 and P3.4: numbers of all lengths in fields of all lengths.
func TestEncoders(t *testing.T) {
	for _, e := range encoders() {
		for _, d := range numbers() {
			for n := 1; n <= 16; n++ {
				want, wantOver := e.want(d, n)
				if b, over := e.call(d, n); toHex(b) != want || over != wantOver {
					t.Errorf("%s of %v into %d = %s, %v, want %s, %v", e.name, d, n, toHex(b), over, want, wantOver)
				}
			}
		}
	}
}

// TestEncodersFail has the invalid arguments of P3.3 and P3.4.
func TestEncodersFail(t *testing.T) {
	for _, e := range encoders() {
		for _, d := range notNumbers() {
			for n := -1; n <= 18; n++ {
				if b, over := e.call(d, n); b != nil || over {
					t.Errorf("%s of %q into %d = % X, %v", e.name, d.Digits, n, b, over)
				}
			}
		}
		for _, n := range wrongSizes() {
			for _, d := range numbers() {
				if b, over := e.call(d, n); b != nil || over {
					t.Errorf("%s of %v into %d = % X, %v", e.name, d, n, b, over)
				}
			}
		}
	}
}

type mover struct {
	name string
	call func([]byte, int) []byte
	want func([]byte, int) string
}

func movers() []mover {
	return []mover{{"Pack", packed.Pack, wantPack}, {"Unpack", packed.Unpack, wantUnpack}}
}

func checkMove(t *testing.T, m mover, b []byte, n int) {
	t.Helper()
	if r := m.call(b, n); toHex(r) != m.want(b, n) {
		t.Errorf("%s of % X into %d = %s, want %s", m.name, b, n, toHex(r), m.want(b, n))
	}
}

// TestMoves has P3.5 and P3.6: fields of all lengths moved into fields of all lengths, with digits and signs that are none.
func TestMoves(t *testing.T) {
	for _, m := range movers() {
		for size := 1; size <= 16; size++ {
			for n := 1; n <= 16; n++ {
				for _, b := range patterns(size) {
					checkMove(t, m, b, n)
				}
			}
		}
		for i := range 256 {
			for _, n := range []int{1, 2, 3, 16} {
				checkMove(t, m, []byte{byte(i)}, n)
				checkMove(t, m, []byte{byte(i), 0x3C}, n)
				checkMove(t, m, []byte{0x9B, byte(i), 0x3C}, n)
			}
		}
	}
}

// TestMovesFail has the invalid arguments of P3.5 and P3.6.
func TestMovesFail(t *testing.T) {
	for _, m := range movers() {
		for n := -1; n <= 18; n++ {
			for _, b := range [][]byte{nil, {}, make([]byte, 17), make([]byte, 18), bytes.Repeat([]byte{0xF1}, 300)} {
				if r := m.call(b, n); r != nil {
					t.Errorf("%s of %d bytes into %d = % X", m.name, len(b), n, r)
				}
			}
		}
		for _, n := range wrongSizes() {
			for _, b := range [][]byte{nil, {0x1C}, fromHex("F1F2C3"), make([]byte, 16), make([]byte, 17)} {
				if r := m.call(b, n); r != nil {
					t.Errorf("%s of %d bytes into %d = % X", m.name, len(b), n, r)
				}
			}
		}
	}
}

// TestOffset is P3.7: fields of all lengths, with digits and signs that are none.
func TestOffset(t *testing.T) {
	check := func(dst, src []byte) {
		t.Helper()
		if r := packed.Offset(dst, src); toHex(r) != wantOffset(dst, src) {
			t.Errorf("Offset of % X by % X = %s, want %s", dst, src, toHex(r), wantOffset(dst, src))
		}
	}
	for n := 1; n <= 16; n++ {
		for size := 1; size <= 16; size++ {
			for _, dst := range patterns(n) {
				for _, src := range patterns(size) {
					check(dst, src)
				}
			}
		}
	}
	for i := range 256 {
		check([]byte{byte(i)}, []byte{0x12, 0x34})
		check([]byte{0x77, byte(i)}, []byte{0x9B})
		check([]byte{0x9C}, []byte{0x12, byte(i)})
		check([]byte{0x77, 0x88, 0x9C}, []byte{byte(i), 0x34})
	}
}

// TestOffsetFails has the invalid arguments of P3.7.
func TestOffsetFails(t *testing.T) {
	good := [][]byte{{0x1C}, make([]byte, 16)}
	bad := [][]byte{nil, {}, make([]byte, 17), make([]byte, 18), bytes.Repeat([]byte{0x1C}, 300)}
	for _, x := range bad {
		for _, y := range append(good, bad...) {
			if r := packed.Offset(x, y); r != nil {
				t.Errorf("Offset of %d bytes by %d bytes = % X", len(x), len(y), r)
			}
			if r := packed.Offset(y, x); r != nil {
				t.Errorf("Offset of %d bytes by %d bytes = % X", len(y), len(x), r)
			}
		}
	}
}
