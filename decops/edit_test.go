package decops_test

import (
	"bytes"
	"fmt"
	"strings"
	"testing"

	"jobshop/api"
	"jobshop/decops"
)

// editing has a pattern at 1024 and a source at 512, and what ED leaves in the pattern's place, the condition code (which was 3), the code, and where EDMK marks: an index of the text, or -1.
type editing struct {
	pattern, source, want string
	cc, code, mark        int
}

// TestEditByHand has ED and EDMK by hand.
func TestEditByHand(t *testing.T) {
	money := "40 20 20 6B 20 20 21 4B 20 20 40 C3 D9"
	for _, r := range []editing{
		{money, "02 57 42 6C", "40 40 F2 6B F5 F7 F4 4B F2 F6 40 40 40", 2, 0, 2},
		{money, "00 00 02 6D", "40 40 40 40 40 40 40 4B F2 F6 40 C3 D9", 1, 0, -1},
		{money, "00 00 00 0C", "40 40 40 40 40 40 40 4B F0 F0 40 40 40", 0, 0, -1},
		{money, "00 00 00 0D", "40 40 40 40 40 40 40 4B F0 F0 40 C3 D9", 0, 0, -1},
		{"5C 20 20 22 20 20 20", "1C 0C 00 0C", "5C F1 5C 5C 5C 5C 5C", 0, 0, 1},
		{"5C 20 20 22 20 20 20", "1C 0C 05 6D", "5C F1 5C 5C 5C F5 F6", 1, 0, 5},
		{"5C 20 22 20 20 20", "1D 05 6C", "5C F1 5C 5C F5 F6", 2, 0, 4},
		{"5C 20 20 20 22 20", "12 3D 0C", "5C F1 F2 F3 5C 5C", 0, 0, 1},
		{"40 20 20 20", "00 5D", "40 40 40 F5", 1, 0, 3},
		{"40 20 20 20 C3 D9", "00 5D", "40 40 40 F5 C3 D9", 1, 0, 3},
		{"40 20 20 20 C3 D9", "00 5B", "40 40 40 F5 C3 D9", 1, 0, 3},
		{"40 20 20 20 C3 D9", "00 5A", "40 40 40 F5 40 40", 2, 0, 3},
		{"40 20 20 20 C3 D9", "00 5E", "40 40 40 F5 40 40", 2, 0, 3},
		{"40 20 20 20 C3 D9", "00 5F", "40 40 40 F5 40 40", 2, 0, 3},
		{"40 21 20 20", "00 5C", "40 40 F0 F5", 2, 0, -1},
		{"40 21 20 20", "50 5C", "40 F5 F0 F5", 2, 0, 1},
		{"20 20", "12", "F1 F2", 1, 0, 0},
		{"20 20", "01", "20 F1", 1, 0, 1},
		{"21 20", "01", "21 F1", 1, 0, -1},
		{"22 20 20", "01", "22 22 F1", 1, 0, 2},
		{"40 20 20 6B", "12", "40 F1 F2 6B", 1, 0, 1},
		{"40", "AA", "40", 0, 0, -1},
		{"40 6B 22 4B", "AA", "40 40 40 40", 0, 0, -1},
		{"40 20", "A1", "", 3, 7, 0},
		{"40 20", "1A A1", "40 F1", 2, 0, 1},
		{"40 20 20", "1A A1", "", 3, 7, 0},
		{"40 20 20 20", "12 A1", "", 3, 7, 0},
		{"40 20 20 20", "12 FC", "", 3, 7, 0},
		{"40 20 20 22 20", "12 CC", "", 3, 7, 0},
		{"40 20 20 22 6B", "12 CC", "40 F1 F2 40 40", 0, 0, 1},
	} {
		for _, name := range []string{"ED", "EDMK"} {
			checkEditing(t, name, r)
		}
	}
}

func checkEditing(t *testing.T, name string, r editing) {
	t.Helper()
	c := newSetting(t, 0)
	c.psw.CC = 3
	c.regs[1] = 0x89ABCDEF
	n := c.set(1024, r.pattern)
	c.set(512, r.source)
	got := c.exec(c.fields(name, n, 1024, 1, 512))
	if r.code != 0 {
		r.want, r.mark = r.pattern, -1
	}
	want := c.regs
	if name == "EDMK" && r.mark >= 0 {
		want[1] = 0x89000000 + 1024 + uint32(r.mark)
	}
	check(t, got.text(1024, n) == r.want && got.psw.CC == r.cc && got.code == r.code, name, r, "leaves", got.text(1024, n), got.psw.CC, got.code)
	check(t, got.regs == want, name, r, "leaves the registers", got.regs[1])
}

// TestSourceEnds has sources that end with the last byte of storage, or before a block from which may not be fetched: the pattern needs the last byte, or one more (Instructions: ED).
func TestSourceEnds(t *testing.T) {
	c := newSetting(t, 6, 9, 6)
	c.psw.Key = 3
	for _, name := range []string{"ED", "EDMK"} {
		for _, edge := range []struct{ end, code int }{{2048, 4}, {6144, 5}} {
			for n := 1; n <= 20; n++ {
				source := right(strings.Repeat("12", n), 2*n)
				c.set(edge.end-n, source)
				for needs := range 2*n + 3 {
					c.set(200, "40"+strings.Repeat("20", needs)+"6B")
					got := c.exec(c.fields(name, needs+2, 200, 1, edge.end-n)).code
					check(t, got == codeIf(needs > 2*n, edge.code), name, "of", n, "bytes before the edge, with", needs, "digits", got)
				}
				c.fill(edge.end-1, 0x3C)
				for needs := range 2*n + 2 {
					c.set(200, "40"+strings.Repeat("20", needs)+"6B")
					got := c.exec(c.fields(name, needs+2, 200, 1, edge.end-n)).code
					check(t, got == codeIf(needs > 2*n-1, edge.code), name, "of a number of", n, "bytes before the edge, with", needs, "digits", got)
				}
			}
		}
	}
}

// TestSourceNotFetched has sources that may not be fetched from at all, with patterns that need a digit and that need none.
func TestSourceNotFetched(t *testing.T) {
	c := newSetting(t, 6, 9)
	c.psw.Key = 3
	for _, name := range []string{"ED", "EDMK"} {
		for _, r := range []struct{ a, code int }{{2048, 4}, {3000, 4}, {4096, 5}, {1<<24 - 1, 5}, {2047, 0}} {
			c.fill(2047, 0x1C)
			c.set(200, "40 4B 22 6B")
			check(t, c.exec(c.fields(name, 4, 200, 1, r.a)).code == 0, name, "without a digit from", r.a)
			c.set(200, "40 4B 20 6B")
			check(t, c.exec(c.fields(name, 4, 200, 1, r.a)).code == r.code, name, "with a digit from", r.a)
			c.set(200, "40 4B 20 20")
			check(t, c.exec(c.fields(name, 4, 200, 1, r.a)).code == max(r.code, 4), name, "with two digits from", r.a)
		}
		c.lock(1, 8)
		c.fill(2048, 0x2C)
		c.set(200, "40 4B 20 20")
		check(t, c.exec(c.fields(name, 4, 200, 1, 2047)).code == 0, name, "of a source in a block from which may be fetched only")
		c.lock(1, 9)
	}
}

// TestSourceFailures has sources with a byte that is not valid and an edge: the first one that the pattern needs counts.
func TestSourceFailures(t *testing.T) {
	c := newSetting(t, 6, 9, 6)
	c.psw.Key = 3
	for _, name := range []string{"ED", "EDMK"} {
		for _, edge := range []struct{ end, code int }{{2048, 4}, {6144, 5}} {
			c.set(200, "40 20 20 20 20 20")
			c.set(edge.end-2, "12 A4")
			check(t, c.exec(c.fields(name, 6, 200, 1, edge.end-2)).code == 7, name, "of a byte that is not valid before the edge", edge)
			c.set(edge.end-2, "12 34")
			check(t, c.exec(c.fields(name, 6, 200, 1, edge.end-2)).code == edge.code, name, "of bytes that are valid before the edge", edge)
			check(t, c.exec(c.fields(name, 5, 200, 1, edge.end-2)).code == 0, name, "of bytes before the edge", edge)
			c.set(edge.end-2, "12 3A")
			check(t, c.exec(c.fields(name, 5, 200, 1, edge.end-2)).code == edge.code, name, "of a number before the edge", edge)
		}
		c.lock(1, 7)
		c.set(2048, "B0")
		c.set(2047, "1C")
		check(t, c.exec(c.fields(name, 3, 200, 1, 2047)).code == 7, name, "of a byte that is not valid in another block")
		c.lock(1, 9)
		check(t, c.exec(c.fields(name, 3, 200, 1, 2047)).code == 4, name, "of a byte that is not valid and may not be fetched")
	}
}

// TestEditLengths has patterns of every length from 1 to 256 bytes with all kinds of bytes, and all sorts of sources.
func TestEditLengths(t *testing.T) {
	c := newSetting(t, 0)
	next := numbersFrom(16)
	count := map[string]int{}
	for n := 1; n <= 256; n++ {
		for round := range 12 {
			for k := range n {
				c.fill(1024+k, []byte{0x20, 0x20, 0x20, 0x21, 0x22, 0x6B, 0x40, byte(next(256))}[next(6+round%3)])
			}
			for k := 0; k < n; {
				k += c.set(512+k, numberOf(next, 1+next(4)))
			}
			c.psw.CC = next(4)
			for _, name := range []string{"ED", "EDMK"} {
				r := c.exec(c.fields(name, n, 1024, 1, 512+next(2)*next(2)))
				count[fmt.Sprintf("%s, code %d, CC %d, marked %v", name, r.code, r.psw.CC, r.regs != c.regs)]++
			}
		}
	}
	for cc := range 3 {
		for _, kind := range []string{"ED, code 0, CC %d, marked false", "EDMK, code 0, CC %d, marked true"} {
			kind = fmt.Sprintf(kind, cc)
			check(t, count[kind] > 100, "executions of the kind", kind, count)
		}
	}
}

// TestMarks has a mark at every index of the text, and none; the high byte of register 1 stays, and it may be a base (Instructions: EDMK).
func TestMarks(t *testing.T) {
	c := newSetting(t, 0)
	for n := 2; n <= 256; n++ {
		for _, at := range []int{1, n / 2, n - 1} {
			c.set(1024, "40"+strings.Repeat("20", n-1))
			c.fill(512, make([]byte, 256)...)
			c.fill(512+(at-1)/2, byte(7<<(4*(at%2))))
			for _, high := range []uint32{0, 0x01000000, 0xFF000000} {
				c.regs[1] = high + 0x123456
				got := c.exec(c.fields("EDMK", n, 1024, 1, 512))
				want := high + 1024 + uint32(at)
				check(t, got.regs[1] == want, "EDMK with a mark at", at, got.regs[1])
				got = c.exec(c.fields("ED", n, 1024, 1, 512))
				check(t, got.regs == c.regs, "registers after ED", got.regs[1])
			}
		}
		c.fill(512, make([]byte, 256)...)
		got := c.exec(c.fields("EDMK", n, 1024, 1, 512))
		check(t, got.regs == c.regs && got.psw.CC == 0, "EDMK without a mark", got.regs[1])
	}
}

// TestMarkBase has EDMK with register 1 as the base of the pattern and of the source.
func TestMarkBase(t *testing.T) {
	c := newSetting(t, 0)
	c.set(1024, "40 20 20 20")
	c.set(512, "00 5D")
	for _, r := range []struct{ base, b1, d1, b2, d2 int }{{1000, 1, 24, 0, 512}, {500, 0, 1024, 1, 12}, {0, 1, 1024, 1, 512}, {1<<24 - 8, 1, 1032, 1, 520}} {
		c.regs[1] = 0xAB000000 + uint32(r.base)
		i := bare("EDMK")
		i.L1, i.B1, i.D1, i.B2, i.D2 = 3, r.b1, r.d1, r.b2, r.d2
		got := c.exec(i)
		check(t, got.regs[1] == 0xAB000000+1027 && got.text(1024, 4) == "40 40 40 F5", "EDMK with register 1 as base", r, got.regs[1])
	}
}

// TestEditOverlap has patterns and sources that overlap: everything is fetched before anything is stored (Terms: storage is accessed).
func TestEditOverlap(t *testing.T) {
	c := newSetting(t, 0)
	next := numbersFrom(17)
	count := map[int]int{}
	for n := 1; n <= 40; n++ {
		for distance := -n - 1; distance <= n+1; distance++ {
			for range 3 {
				for k := range 200 {
					c.fill(1000+k-80, []byte{0x20, 0x21, 0x22, 0x1C, 0x05, 0x40}[next(6)])
				}
				count[c.exec(c.fields("ED", n, 1000, 1, 1000+distance)).code]++
				count[c.exec(c.fields("EDMK", n, 1000, 1, 1000+distance)).code]++
			}
		}
	}
	check(t, len(count) == 1 && count[0] > 5000, "executions with operands that overlap", count)
}

// TestEditRegister is P10.6: the digits of a register's magnitude, right-aligned in 15 places after a blank.
func TestEditRegister(t *testing.T) {
	c := newSetting(t, 6)
	c.psw.Key = 3
	pattern := append([]byte{0x40}, bytes.Repeat([]byte{0x20}, 15)...)
	for _, v := range words() {
		c.regs[5] = v
		c.fill(900, pattern...)
		_, _, code := decops.Exec(convert("CVD", 5, 0, 0, 800), c.regs, c.psw, c.s)
		check(t, code == api.CodeNone, "CVD of", v, code)
		regs, _, code := decops.Exec(c.fields("ED", 16, 900, 1, 800), c.regs, c.psw, c.s)
		text := ""
		if v != 0 {
			text = strings.TrimPrefix(fmt.Sprint(int32(v)), "-")
		}
		want := bytes.Repeat([]byte{0x40}, 16-len(text))
		for _, digit := range []byte(text) {
			want = append(want, 0xF0+digit-'0')
		}
		check(t, code == api.CodeNone && regs == c.regs && bytes.Equal(c.s.Bytes(900, 16), want), "ED of", v, c.s.Bytes(900, 16), code)
	}
}
