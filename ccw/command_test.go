package ccw_test

import (
	"testing"

	"jobshop/api"
	"jobshop/ccw"
)

// TestEncodeCodes has each command code with each combination of the flags and several counts (P12.2).
func TestEncodeCodes(t *testing.T) {
	for op := -10; op <= 270; op++ {
		for _, count := range []int{0, 1, 80, 65535, 65536, -1} {
			for _, c := range combinations(api.CCW{Op: op, Addr: 0x123456, Count: count}) {
				checkEncode(t, c)
			}
		}
	}
}

// TestEncodeFlags has each flag alone, and all of them (P12.2).
func TestEncodeFlags(t *testing.T) {
	rows := []struct {
		c    api.CCW
		want string
	}{
		{api.CCW{Op: 1, Count: 1}, "0100000000000001"},
		{api.CCW{Op: 1, Count: 1, CD: true}, "0100000080000001"},
		{api.CCW{Op: 1, Count: 1, CC: true}, "0100000040000001"},
		{api.CCW{Op: 1, Count: 1, SLI: true}, "0100000020000001"},
		{api.CCW{Op: 1, Count: 1, Skip: true}, "0100000010000001"},
		{api.CCW{Op: 1, Count: 1, PCI: true}, "0100000008000001"},
		{api.CCW{Op: 0xFF, Addr: 0xFFFFFF, Count: 0xFFFF, CD: true, CC: true, SLI: true, Skip: true, PCI: true}, "FFFFFFFFF800FFFF"},
	}
	for _, r := range rows {
		b, err := ccw.Encode(r.c)
		check(t, digits(b) == r.want && err == api.OK, "Encode of", text(r.c), "=", digits(b), int(err), "want", r.want)
		c, ok := ccw.Decode(bytesOf(r.want))
		check(t, c == r.c && ok, "Decode of", r.want, "=", text(c), ok, "want", text(r.c))
	}
}

// TestEncodeNumbers has each number at its ends and with each bit alone, for several codes (P12.2).
func TestEncodeNumbers(t *testing.T) {
	for _, op := range codes() {
		for _, addr := range near(1<<24 - 1) {
			for _, count := range []int{0, 1, 65535} {
				checkEncode(t, api.CCW{Op: op, Addr: addr, Count: count})
				checkEncode(t, api.CCW{Op: op, Addr: addr, Count: count, CC: true, PCI: true})
			}
		}
		for _, count := range near(65535) {
			checkEncode(t, api.CCW{Op: op, Count: count})
			checkEncode(t, api.CCW{Op: op, Addr: 1<<24 - 1, Count: count, CD: true, SLI: true, Skip: true})
		}
	}
}

// TestEncodeEdges has all numbers at their ends and one beside, each with each, with and without a flag (P12.2).
func TestEncodeEdges(t *testing.T) {
	ops := append(codes(), -1, -2, -8, 256, 257, 264)
	for _, op := range ops {
		for _, addr := range edges(1<<24 - 1) {
			for _, count := range edges(65535) {
				checkEncode(t, api.CCW{Op: op, Addr: addr, Count: count})
				checkEncode(t, api.CCW{Op: op, Addr: addr, Count: count, Skip: true})
			}
		}
	}
}

// TestEncodeOutside has each number alone out of its range, in words that are valid and in words that are not, too: ErrRange comes first (P12.2).
func TestEncodeOutside(t *testing.T) {
	bases := []api.CCW{
		{Op: 2, Addr: 16, Count: 80},                        // valid
		{Op: 8, Addr: 16},                                   // a valid Jump
		{Op: 0x10, Addr: 16, Count: 80},                     // not a command code
		{Op: 2, Addr: 16},                                   // no count
		{Op: 8, Addr: 16, Count: 1},                         // a Jump with a count
		{Op: 8, Addr: 16, PCI: true},                        // a Jump with a flag
		{Op: 0xF8, Count: 65535, CD: true, CC: true},        // both of it
		{Op: 0, Addr: 0, Count: 0, Skip: true, SLI: true},   // nothing but flags
		{Op: 0x10, Addr: 0xFFFFFF, Count: 65535, SLI: true}, // the ends of the ranges
	}
	for _, base := range bases {
		for _, v := range beside(255) {
			c := base
			c.Op = v
			checkRange(t, c)
		}
		for _, v := range beside(1<<24 - 1) {
			c := base
			c.Addr = v
			checkRange(t, c)
		}
		for _, v := range beside(65535) {
			c := base
			c.Count = v
			checkRange(t, c)
		}
	}
}

// checkRange checks that a number of c is out of its range, if it is, and what Encode does in any case.
func checkRange(t *testing.T, c api.CCW) {
	t.Helper()
	checkEncode(t, c)
	if outside(commandFields(c)) {
		b, err := ccw.Encode(c)
		check(t, len(b) == 0 && err == api.ErrRange, "Encode of", text(c), "=", digits(b), int(err), "want ErrRange")
	}
}

// TestEncodeInvalid has words whose numbers fit, but which are not valid (P12.2).
func TestEncodeInvalid(t *testing.T) {
	rows := []api.CCW{
		{},
		{Op: 0, Addr: 8, Count: 1},
		{Op: 0x10, Count: 1},
		{Op: 0xF0, Count: 65535},
		{Op: 1},
		{Op: 2, Addr: 1<<24 - 1, CC: true},
		{Op: 3}, {Op: 4}, {Op: 0xC},
		{Op: 8, Count: 1}, {Op: 8, Count: 65535}, {Op: 0xF8, Count: 256},
		{Op: 8, CD: true}, {Op: 8, CC: true}, {Op: 8, SLI: true}, {Op: 8, Skip: true}, {Op: 8, PCI: true},
		{Op: 0x18, CD: true, CC: true, SLI: true, Skip: true, PCI: true, Count: 1},
	}
	for _, c := range rows {
		b, err := ccw.Encode(c)
		check(t, len(b) == 0 && err == api.ErrArg, "Encode of", text(c), "=", digits(b), int(err), "want ErrArg")
	}
}

// TestEncodeJump has valid Jumps: the last five bytes but the address are 0 (P12.2).
func TestEncodeJump(t *testing.T) {
	for high := range 16 {
		for _, addr := range near(1<<24 - 1) {
			c := api.CCW{Op: 16*high + 8, Addr: addr}
			b, err := ccw.Encode(c)
			want, _ := wantEncode(c)
			check(t, err == api.OK && digits(b) == want && want[8:] == "00000000", "Encode of", text(c), "=", digits(b), int(err))
		}
	}
}

// TestDecodeBytes has each of the 256 bytes at each place of several words (P12.3).
func TestDecodeBytes(t *testing.T) {
	for _, s := range samples() {
		for place := range 8 {
			for v := range 256 {
				b := bytesOf(s)
				b[place] = byte(v)
				checkDecode(t, b)
			}
		}
	}
}

// TestDecodeCodes has each command code with each byte of flags, with and without a count (P12.3).
func TestDecodeCodes(t *testing.T) {
	for op := range 256 {
		for bits := range 256 {
			for _, count := range []string{"0000", "0001", "0100", "8000", "FFFF"} {
				b := append([]byte{byte(op), 0xA1, 0xB2, 0xC3, byte(bits), 0x5A}, bytesOf(count)...)
				checkDecode(t, b)
			}
		}
	}
}

// TestDecodeIgnored checks that the byte after the flags does not matter, and for a Jump none of the last four (P12.3).
func TestDecodeIgnored(t *testing.T) {
	for v := range 256 {
		c, ok := ccw.Decode([]byte{2, 0, 16, 0, 0x40, byte(v), 0, 80})
		check(t, c == (api.CCW{Op: 2, Addr: 0x1000, CC: true, Count: 80}) && ok, "with the byte", v, "a Read is", text(c), ok)
		for place := 4; place < 8; place++ {
			for _, s := range []string{"0800001000000000", "98FFFFFFFFFFFFFF", "F8ABCDEF07000000"} {
				b := bytesOf(s)
				b[place] = byte(v)
				c, ok := ccw.Decode(b)
				check(t, c == (api.CCW{Op: hex(s[:2]), Addr: hex(s[2:8])}) && ok, "the Jump", digits(b), "is", text(c), ok)
			}
		}
	}
}

// TestDecodeCounts has all counts (P12.3).
func TestDecodeCounts(t *testing.T) {
	for count := range 65536 {
		c, ok := ccw.Decode([]byte{1, 0, 0, 9, 0x20, 0, byte(count / 256), byte(count % 256)})
		want := api.CCW{Op: 1, Addr: 9, SLI: true, Count: count}
		if count == 0 {
			want = api.CCW{}
		}
		check(t, c == want && ok == (count != 0), "with the count", count, "a Write is", text(c), ok)
	}
}

// TestDecodeInvalid has words that are not valid for one reason each (P12.3).
func TestDecodeInvalid(t *testing.T) {
	rows := []string{
		"0000100040000050", "1000100040000050", "F000100000000001", "0000000000000000",
		"0200100001000050", "0200100002000050", "0200100004000050", "02001000FF000050", "04FFFFFF09000001",
		"0200100000000000", "0CFFFFFFF8FF0000", "FF00000000000000",
	}
	for _, s := range rows {
		c, ok := ccw.Decode(bytesOf(s))
		check(t, c == (api.CCW{}) && !ok, "Decode of", s, "=", text(c), ok)
	}
}

// TestLengths has nil, and slices of many lengths, for all functions that decode (P12.3, P12.4, P12.5).
func TestLengths(t *testing.T) {
	checkAll(t, nil)
	checkAll(t, []byte{})
	for _, s := range samples() {
		long := s + s + s + s
		for n := range len(long)/2 + 1 {
			checkAll(t, bytesOf(long[:2*n]))
		}
	}
	for _, n := range []int{40, 64, 80, 256, 257, 260, 264, 1000, 65536, 65540, 65544} {
		for _, fill := range []byte{0x00, 0x08, 0x20, 0xF8} {
			b := make([]byte, n)
			for k := range b {
				b[k] = fill
			}
			checkAll(t, b)
		}
	}
}
