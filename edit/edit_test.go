package edit_test

import (
	"bytes"
	"slices"
	"testing"
)

// eachString calls f with all strings of n bytes of the alphabet. f must not keep them.
func eachString(alphabet []byte, n int, f func(b []byte)) {
	var extend func(b []byte)
	extend = func(b []byte) {
		if len(b) == n {
			f(b)
			return
		}
		for _, c := range alphabet {
			extend(append(b, c))
		}
	}
	extend(make([]byte, 0, n))
}

// stringsOf returns all strings of at most n bytes of the alphabet.
func stringsOf(alphabet []byte, n int) [][]byte {
	var all [][]byte
	for length := range n + 1 {
		eachString(alphabet, length, func(b []byte) { all = append(all, slices.Clone(b)) })
	}
	return all
}

// sources are some sources for longer patterns: numbers one after the other, with each sign, and some that end early or are no numbers.
func sources() [][]byte {
	var all [][]byte
	for _, s := range []string{
		"00 00 00 00", "12 34 56 78", "00 00 05 0C", "00 00 05 0D", "10 00 00 0D", "00 00 0C", "00 00 0D",
		"1C 2C 3C 4C 5C 6C", "1D 2D 3D 4D 5D 6D", "0C 0C 0C 0C 0C 0C", "0D 1C 0D 1C 0D 1D", "0C 5D 0C 5D 0C 0D",
		"00 1A 00 2B 00 3C", "90 0E 09 0F 00 9D", "01 00 2C 03 0D", "00 5F 00 50 00", "05 0B 10 0A 01",
		"12 A4", "00 0C F0", "1D 00 B5", "0C", "50", "",
	} {
		all = append(all, hx(s))
	}
	return all
}

// TestShort has all patterns of at most 4 bytes of five kinds, with all sources of at most 2 bytes of many kinds (P5.1).
func TestShort(t *testing.T) {
	all := stringsOf(hx("00 01 10 12 99 0A 0B 0C 0D 0E 0F 1C 1D 9B 5F A1 CC"), 2)
	for _, pattern := range stringsOf(hx("40 20 21 22 C3"), 4) {
		for _, source := range all {
			check(t, pattern, source)
		}
	}
}

// TestLonger has all patterns of at most 6 bytes of four kinds (P5.1).
func TestLonger(t *testing.T) {
	all := sources()
	for _, pattern := range stringsOf(hx("40 20 21 22"), 6) {
		for _, source := range all {
			check(t, pattern, source)
		}
	}
}

// TestPatternBytes has each byte as a byte of a pattern: as the fill byte, before, between and behind digits.
func TestPatternBytes(t *testing.T) {
	for i := range 256 {
		x := byte(i)
		for _, pattern := range [][]byte{
			{x}, {x, 0x20, 0x20, 0x20, 0xC3}, {x, x}, {x, x, x, x}, {0x40, x, 0x20, 0x20}, {0x40, 0x20, x, 0x20, 0x20},
			{0x40, 0x21, x, 0x20, 0x20}, {0x40, 0x20, 0x20, x}, {0x5C, 0x20, 0x20, 0x20, x, x}, {0x5C, 0x20, 0x22, x, 0x20, x},
		} {
			for _, source := range sources() {
				check(t, pattern, source)
			}
		}
	}
}

// TestSourceBytes has all sources of two bytes.
func TestSourceBytes(t *testing.T) {
	patterns := [][]byte{hx("40 20"), hx("40 20 20"), hx("40 20 20 20 C3"), hx("40 20 20 20 20 C3"), hx("40 21 20 C2 22 20 C3")}
	for i := range 256 {
		for j := range 256 {
			for _, pattern := range patterns {
				check(t, pattern, []byte{byte(i), byte(j)})
			}
		}
	}
}

// TestLengths has patterns of all lengths up to more than the maximum, with sources that are just long enough or just too short.
func TestLengths(t *testing.T) {
	for n := range 260 {
		for _, unit := range [][]byte{hx("20"), hx("21"), hx("22"), hx("C3"), hx("40 20 20 6B"), hx("22 21 20 C3")} {
			pattern := bytes.Repeat(unit, n)[:n]
			need := bytes.Count(pattern, hx("20")) + bytes.Count(pattern, hx("21"))
			for _, b := range hx("00 10 34 0C 0D 5C 5D") {
				for _, size := range []int{need/2 - 1, need / 2, need/2 + 1, need - 1, need, need + 1} {
					check(t, pattern, bytes.Repeat([]byte{b}, max(size, 0)))
				}
			}
		}
	}
	for _, n := range []int{257, 258, 511, 512, 513, 1000, 1 << 16, 1<<16 + 1} {
		check(t, bytes.Repeat(hx("20"), n), bytes.Repeat(hx("12"), n))
		check(t, bytes.Repeat(hx("C3"), n), nil)
	}
}

// TestLongest has patterns of the maximum length whose results are written out.
func TestLongest(t *testing.T) {
	selects := bytes.Repeat(hx("20"), 255)
	mixed := slices.Concat(hx("40"), selects[:127], bytes.Repeat(hx("6B"), 128))
	checkRows(t, []row{
		{"message bytes", toHex(bytes.Repeat(hx("5C"), 256)), "", outcome{text: toHex(bytes.Repeat(hx("5C"), 256)), mark: -1}.String()},
		{"a digit at the end", "40" + toHex(selects), toHex(make([]byte, 127)) + "7D", outcome{text: toHex(bytes.Repeat(hx("40"), 255)) + "F7", cc: 1, mark: 255}.String()},
		{"a digit at the beginning", "40" + toHex(selects), "50" + toHex(make([]byte, 126)) + "0C", outcome{text: "40F5" + toHex(bytes.Repeat(hx("F0"), 254)), cc: 2, mark: 1}.String()},
		{"message bytes behind digits", toHex(mixed), toHex(make([]byte, 63)) + "7D", outcome{text: toHex(bytes.Repeat(hx("40"), 127)) + "F7" + toHex(mixed[128:]), cc: 1, mark: 127}.String()},
	})
}
