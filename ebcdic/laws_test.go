package ebcdic_test

import (
	"bytes"
	"slices"
	"strings"
	"testing"

	"jobshop/api"
	"jobshop/ebcdic"
)

// TestInverse is P2.5.
func TestInverse(t *testing.T) {
	for _, x := range allBytes() {
		if code, ok := ebcdic.Code(x); ok {
			if c, ok := ebcdic.Char(code); c != x || !ok {
				t.Errorf("Char of the code of %q = %q, %v", x, c, ok)
			}
		}
		if c, ok := ebcdic.Char(x); ok {
			if code, ok := ebcdic.Code(c); code != x || !ok {
				t.Errorf("Code of the character of %x = %x, %v", x, code, ok)
			}
		}
	}
}

// TestConcatenation is P2.6, for the parts of all cuts of texts with and without bytes that are no characters.
func TestConcatenation(t *testing.T) {
	texts := []string{"", "A", "  ", "HELLO, 7", "\n", "AB\nCD", "\x00A", "A\xFF", "\xC3\xA9", allChars()}
	for _, s := range texts {
		whole, err := ebcdic.Encode(s)
		for i := range len(s) + 1 {
			a, errA := ebcdic.Encode(s[:i])
			b, errB := ebcdic.Encode(s[i:])
			if (err == api.OK) != (errA == api.OK && errB == api.OK) {
				t.Errorf("Encode of %q = %d, of its parts at %d: %d, %d", s, err, i, errA, errB)
			}
			if err == api.OK && !bytes.Equal(whole, slices.Concat(a, b)) {
				t.Errorf("Encode of %q = % X, of its parts: % X, % X", s, whole, a, b)
			}
		}
	}
}

// TestThereAndBack is the other part of P2.6, and follows for Pad and Trim.
func TestThereAndBack(t *testing.T) {
	for _, s := range []string{"", " ", "A", " A B ", "x  ", "A..B", "HELLO, 7", allChars(), strings.Repeat(allChars(), 50)} {
		b, err := ebcdic.Encode(s)
		if back := ebcdic.Decode(b); back != s || err != api.OK {
			t.Errorf("Decode of what Encode returned for %q = %q, %d", s, back, err)
		}
		b, err = ebcdic.Pad(s, len(s)+7)
		if back := ebcdic.Trim(b); back != strings.TrimRight(s, " ") || err != api.OK {
			t.Errorf("Trim of what Pad returned for %q = %q, %d", s, back, err)
		}
	}
}

// TestCollation is P2.7.
func TestCollation(t *testing.T) {
	order := " abcdefghijklmnopqrstuvwxyzABCDEFGHIJKLMNOPQRSTUVWXYZ0123456789"
	for i := 1; i < len(order); i++ {
		low, ok := ebcdic.Code(order[i-1])
		high, too := ebcdic.Code(order[i])
		if low >= high || !ok || !too {
			t.Errorf("the code of %q is %x, that of %q is %x", order[i-1], low, order[i], high)
		}
	}
}

// TestArgumentsKept checks that functions neither change their argument nor read or change what lies beyond its length (R3 of DOC.md).
func TestArgumentsKept(t *testing.T) {
	for _, rest := range []byte{0x00, 0x40, 0xC1} {
		all := []byte{0xC1, 0x40, 0x00, 0xC2, 0x40, 0x40, rest, rest, rest}
		before := slices.Clone(all)
		if s := ebcdic.Decode(all[:6]); s != "A .B  " {
			t.Errorf("Decode = %q before bytes %x", s, rest)
		}
		if s := ebcdic.Trim(all[:6]); s != "A .B" {
			t.Errorf("Trim = %q before bytes %x", s, rest)
		}
		if s := ebcdic.Decode(all[:0]) + ebcdic.Trim(all[:0]); s != "" {
			t.Errorf("Decode and Trim of no bytes = %q before bytes %x", s, rest)
		}
		if !bytes.Equal(all, before) {
			t.Errorf("the bytes are % X then, want % X", all, before)
		}
	}
}

// TestArgumentsNotRetained checks that a string that was returned stays as it is when the bytes change from which it was made (R3).
func TestArgumentsNotRetained(t *testing.T) {
	b := []byte{0xC1, 0xC2, 0x40}
	decoded, trimmed := ebcdic.Decode(b), ebcdic.Trim(b)
	copy(b, []byte{0xF1, 0xF2, 0xF3})
	if decoded != "AB " || trimmed != "AB" {
		t.Errorf("Decode and Trim = %q, %q after their argument changed", decoded, trimmed)
	}
	if s := ebcdic.Decode(b) + ebcdic.Trim(b); s != "123123" {
		t.Errorf("Decode and Trim = %q of the changed argument", s)
	}
}

// spoil overwrites all memory of b, also that beyond its length.
func spoil(b []byte) {
	b = b[:cap(b)]
	for i := range b {
		b[i] ^= 0xFF
	}
}

// TestResultsAreNew checks that results share no memory with each other or with the package (R3, R4).
func TestResultsAreNew(t *testing.T) {
	calls := []func() ([]byte, api.Errno){
		func() ([]byte, api.Errno) { return ebcdic.Encode("AB ") },
		func() ([]byte, api.Errno) { return ebcdic.Pad("AB", 3) },
		func() ([]byte, api.Errno) { return ebcdic.Pad("AB ", 3) },
		func() ([]byte, api.Errno) { return ebcdic.Pad("", 3) },
	}
	for i, call := range calls {
		for j, other := range calls {
			kept, err := call()
			before := slices.Clone(kept)
			spoiled, err2 := other()
			spoil(spoiled)
			again, err3 := call()
			if !bytes.Equal(kept, before) || !bytes.Equal(again, before) || err != api.OK || err2 != api.OK || err3 != api.OK {
				t.Errorf("call %d = % X, then % X, and % X after the result of call %d changed", i, before, kept, again, j)
			}
		}
	}
}
