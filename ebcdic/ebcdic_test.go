package ebcdic_test

import (
	"bytes"
	"math"
	"slices"
	"strings"
	"testing"

	"jobshop/api"
	"jobshop/ebcdic"
)

// char is a character and its code.
type char struct{ c, code byte }

// table is the chapter's table, written independently of the package's: lists as they stand there, ranges by their first code.
func table() []char {
	var chars []char
	list := func(text string, codes ...byte) {
		for i := range codes {
			chars = append(chars, char{text[i], codes[i]})
		}
	}
	span := func(from, to, code byte) {
		for c := from; c <= to; c++ {
			chars = append(chars, char{c, code + c - from})
		}
	}
	list(" !\"#$%&'", 0x40, 0x5A, 0x7F, 0x7B, 0x5B, 0x6C, 0x50, 0x7D)
	list("()*+,-./", 0x4D, 0x5D, 0x5C, 0x4E, 0x6B, 0x60, 0x4B, 0x61)
	span('0', '9', 0xF0)
	list(":;<=>?@", 0x7A, 0x5E, 0x4C, 0x7E, 0x6E, 0x6F, 0x7C)
	span('A', 'I', 0xC1)
	span('J', 'R', 0xD1)
	span('S', 'Z', 0xE2)
	list("[\\]^_`", 0xBA, 0xE0, 0xBB, 0xB0, 0x6D, 0x79)
	span('a', 'i', 0x81)
	span('j', 'r', 0x91)
	span('s', 'z', 0xA2)
	list("{|}~", 0xC0, 0x4F, 0xD0, 0xA1)
	return chars
}

// allChars are all characters in the order of ASCII, and allCodes their codes.
func allChars() string {
	s := ""
	for _, x := range table() {
		s += string(rune(x.c))
	}
	return s
}

func allCodes() []byte {
	var b []byte
	for _, x := range table() {
		b = append(b, x.code)
	}
	return b
}

// allBytes are the numbers from 0 to 255.
func allBytes() []byte {
	b := make([]byte, 256)
	for i := range b {
		b[i] = byte(i)
	}
	return b
}

// isChar reports whether c is a character, by the definition.
func isChar(c byte) bool { return c >= 32 && c <= 126 }

// TestTable checks the definition: the characters are those from 32 to 126, and their codes differ.
func TestTable(t *testing.T) {
	seen := map[byte]byte{}
	for i, x := range table() {
		if int(x.c) != 32+i {
			t.Fatalf("character %d of the table is %q", i, x.c)
		}
		code, ok := ebcdic.Code(x.c)
		if other, twice := seen[code]; twice || !ok {
			t.Errorf("the code of %q is %x, %v, which %q has, too", x.c, code, ok, other)
		}
		seen[code] = x.c
	}
	if len(seen) != 95 {
		t.Errorf("%d codes, want 95", len(seen))
	}
}

func TestBlank(t *testing.T) {
	if code, ok := ebcdic.Code(' '); ebcdic.Blank != 0x40 || code != ebcdic.Blank || !ok {
		t.Errorf("the code of a blank is %x, %v, and Blank is %x", code, ok, ebcdic.Blank)
	}
}

// TestCode gives Code each of the 256 bytes (P2.1).
func TestCode(t *testing.T) {
	want := map[byte]byte{}
	for _, x := range table() {
		want[x.c] = x.code
	}
	for _, c := range allBytes() {
		code, ok := ebcdic.Code(c)
		if code != want[c] || ok != isChar(c) {
			t.Errorf("Code of %x = %x, %v, want %x, %v", c, code, ok, want[c], isChar(c))
		}
	}
}

// TestChar gives Char each of the 256 bytes (P2.1).
func TestChar(t *testing.T) {
	want := map[byte]byte{}
	for _, x := range table() {
		want[x.code] = x.c
	}
	for _, b := range allBytes() {
		char, wantOK := want[b]
		if c, ok := ebcdic.Char(b); c != char || ok != wantOK {
			t.Errorf("Char of %x = %x, %v, want %x, %v", b, c, ok, char, wantOK)
		}
	}
}

func TestEncode(t *testing.T) {
	rows := []struct {
		s    string
		want []byte
	}{
		{"", nil},
		{" ", []byte{0x40}},
		{"A1 ", []byte{0xC1, 0xF1, 0x40}},
		{"  a  z ", []byte{0x40, 0x40, 0x81, 0x40, 0x40, 0xA9, 0x40}},
		{"//SYSIN DD *", []byte{0x61, 0x61, 0xE2, 0xE8, 0xE2, 0xC9, 0xD5, 0x40, 0xC4, 0xC4, 0x40, 0x5C}},
		{allChars(), allCodes()},
		{strings.Repeat(allChars(), 1000), bytes.Repeat(allCodes(), 1000)},
	}
	for _, r := range rows {
		if b, err := ebcdic.Encode(r.s); !bytes.Equal(b, r.want) || err != api.OK {
			t.Errorf("Encode of %q = % X, %d, want % X", r.s, b, err, r.want)
		}
	}
}

// notChars are strings with bytes that are no characters: each such byte, at each place of a string, and characters of UTF-8, whose bytes count and not their runes.
func notChars() []string {
	var texts []string
	for _, c := range allBytes() {
		if !isChar(c) {
			x := string([]byte{c})
			texts = append(texts, x, x+"AB", "A"+x+"B", "AB"+x, x+x)
		}
	}
	return append(texts, "\u0141", "\u0120", "A\u00e9", "\u4e00\u0041", allChars()+"\n", string(allBytes()))
}

// TestEncodeFails is the error of P2.2.
func TestEncodeFails(t *testing.T) {
	for _, s := range notChars() {
		if b, err := ebcdic.Encode(s); len(b) != 0 || err != api.ErrChar {
			t.Errorf("Encode of %q = % X, %d", s, b, err)
		}
	}
}

func TestDecode(t *testing.T) {
	rows := []struct {
		b    []byte
		want string
	}{
		{nil, ""},
		{[]byte{}, ""},
		{[]byte{0xC1, 0x00, 0x40}, "A. "},
		{[]byte{0x40, 0x40}, "  "},
		{[]byte{0x00, 0x41, 0xFA, 0xFF, 0x80}, "....."},
		{[]byte{0x4B, 0x0D, 0x4B}, "..."},
		{[]byte{0x41, 0x5A, 0x20, 0x61, 0x7A}, ".!./:"},
		{allCodes(), allChars()},
	}
	for _, r := range rows {
		if s := ebcdic.Decode(r.b); s != r.want {
			t.Errorf("Decode of % X = %q, want %q", r.b, s, r.want)
		}
	}
}

// decoded returns what Decode returns, from the table.
func decoded(b []byte) string {
	s := ""
	for _, code := range b {
		i := bytes.IndexByte(allCodes(), code)
		if i < 0 {
			s += "."
		} else {
			s += allChars()[i : i+1]
		}
	}
	return s
}

// TestDecodeBytes gives Decode and Trim each of the 256 bytes, alone and among others (P2.3).
func TestDecodeBytes(t *testing.T) {
	for _, c := range allBytes() {
		for _, b := range [][]byte{{c}, {c, 0x40}, {0x40, c, 0x40, 0x40}, {0xC1, c, 0xC2}, {c, c}} {
			want := decoded(b)
			if s := ebcdic.Decode(b); s != want {
				t.Errorf("Decode of % X = %q, want %q", b, s, want)
			}
			if s := ebcdic.Trim(b); s != strings.TrimRight(want, " ") {
				t.Errorf("Trim of % X = %q, want that of %q", b, s, want)
			}
		}
	}
	if s := ebcdic.Decode(allBytes()); s != decoded(allBytes()) {
		t.Errorf("Decode of all bytes = %q", s)
	}
}

// TestTrim checks that only the blanks at the end go (P2.3), and that no other byte is a blank.
func TestTrim(t *testing.T) {
	rows := []struct {
		b    []byte
		want string
	}{
		{nil, ""},
		{[]byte{}, ""},
		{[]byte{0x40, 0x40, 0x40}, ""},
		{[]byte{0xC1, 0x00, 0x40}, "A."},
		{[]byte{0xC1, 0x40, 0x40, 0xC2, 0x40}, "A  B"},
		{[]byte{0x40, 0x40, 0xC1}, "  A"},
		{[]byte{0xC1, 0x40, 0x00, 0x40}, "A ."},
		{[]byte{0xC1, 0x40, 0x20}, "A ."},
		{[]byte{0xC1, 0x40, 0x4B, 0x4B}, "A .."},
		{[]byte{0xC1}, "A"},
	}
	for _, r := range rows {
		if s := ebcdic.Trim(r.b); s != r.want {
			t.Errorf("Trim of % X = %q, want %q", r.b, s, r.want)
		}
	}
}

func TestPad(t *testing.T) {
	for _, s := range []string{"", "A", "AB", " ", " A ", "SYS1.LINKLIB", allChars()} {
		codes, err := ebcdic.Encode(s)
		if err != api.OK {
			t.Fatalf("Encode of %q = %d", s, err)
		}
		for _, n := range []int{len(s), len(s) + 1, len(s) + 2, 132, api.MaxSource - 1, api.MaxSource} {
			want := append(slices.Clone(codes), bytes.Repeat([]byte{0x40}, n-len(s))...)
			if b, err := ebcdic.Pad(s, n); !bytes.Equal(b, want) || err != api.OK {
				t.Errorf("Pad of %q to %d has %d bytes, %d, want % X and blanks", s, n, len(b), err, codes)
			}
		}
	}
	full := strings.Repeat("X", api.MaxSource)
	if b, err := ebcdic.Pad(full, api.MaxSource); !bytes.Equal(b, bytes.Repeat([]byte{0xE7}, api.MaxSource)) || err != api.OK {
		t.Errorf("Pad of the longest text has %d bytes, %d", len(b), err)
	}
}

// TestPadFails has the errors of P2.4, alone and several at once: the first one that the promise names is returned.
func TestPadFails(t *testing.T) {
	full := strings.Repeat("X", api.MaxSource)
	rows := []struct {
		s    string
		n    int
		want api.Errno
	}{
		{"", -1, api.ErrArg},
		{"", math.MinInt, api.ErrArg},
		{"", api.MaxSource + 1, api.ErrArg},
		{"A", api.MaxSource + 1, api.ErrArg},
		{"A", math.MaxInt, api.ErrArg},
		{full, api.MaxSource + 1, api.ErrArg},
		{full + "X", api.MaxSource + 1, api.ErrArg},
		{full + "XX", api.MaxSource + 1, api.ErrArg},
		{"AB", 1, api.ErrLong},
		{"A", 0, api.ErrLong},
		{" ", 0, api.ErrLong},
		{"A  ", 2, api.ErrLong},
		{full, api.MaxSource - 1, api.ErrLong},
		{full + "X", api.MaxSource, api.ErrLong},
		{"\u00e9", 1, api.ErrLong},
		{"\n", -1, api.ErrArg},
		{"\n", api.MaxSource + 1, api.ErrArg},
		{"A\n", 1, api.ErrLong},
		{"\n", 0, api.ErrLong},
		{"\u00e9", 2, api.ErrChar},
		{"\n", 80, api.ErrChar},
		{full[1:] + "\n", api.MaxSource, api.ErrChar},
	}
	for _, r := range rows {
		if b, err := ebcdic.Pad(r.s, r.n); len(b) != 0 || err != r.want {
			t.Errorf("Pad of %d bytes to %d = %d bytes, %d, want %d", len(r.s), r.n, len(b), err, r.want)
		}
	}
	for _, s := range notChars() {
		if b, err := ebcdic.Pad(s, 300); len(b) != 0 || err != api.ErrChar {
			t.Errorf("Pad of %q = % X, %d", s, b, err)
		}
	}
}
