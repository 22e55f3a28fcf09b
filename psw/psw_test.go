package psw_test

import (
	"fmt"
	"math"
	"slices"
	"testing"

	"jobshop/api"
	"jobshop/psw"
)

// TestValid is the first part of P6.1, for each field at its ends and beyond them.
func TestValid(t *testing.T) {
	for _, p := range words() {
		if !psw.Valid(p) {
			t.Errorf("%s is not valid", text(p))
		}
	}
	for _, p := range invalid() {
		if psw.Valid(p) {
			t.Errorf("%s is valid", text(p))
		}
	}
}

// TestEncode is the other part of P6.1.
func TestEncode(t *testing.T) {
	for _, p := range words() {
		if b, ok := psw.Encode(p); toBits(b) != wantBits(p) || !ok {
			t.Errorf("Encode of %s = % X, %v, want % X", text(p), b, ok, fromBits(wantBits(p)))
		}
	}
}

func TestEncodeInvalid(t *testing.T) {
	for _, p := range invalid() {
		if b, ok := psw.Encode(p); len(b) != 0 || ok {
			t.Errorf("Encode of %s = % X, %v", text(p), b, ok)
		}
	}
}

// TestEncodeFlags has each flag alone (P6.1).
func TestEncodeFlags(t *testing.T) {
	rows := []struct {
		p    api.PSW
		want byte
	}{
		{api.PSW{}, 0x00},
		{api.PSW{Machine: true}, 0x04},
		{api.PSW{Wait: true}, 0x02},
		{api.PSW{Problem: true}, 0x01},
		{api.PSW{Machine: true, Wait: true, Problem: true}, 0x07},
		{api.PSW{Key: 15, Machine: true, Wait: true, Problem: true}, 0xF7},
		{api.PSW{Key: 8}, 0x80},
	}
	for _, r := range rows {
		if b, ok := psw.Encode(r.p); !slices.Equal(b, []byte{0, r.want, 0, 0, 0, 0, 0, 0}) || !ok {
			t.Errorf("Encode of %s = % X, %v, want %X in the second byte", text(r.p), b, ok, r.want)
		}
	}
}

func checkDecode(t *testing.T, b []byte) {
	t.Helper()
	want, wantOK := wantDecode(toBits(b))
	if p, ok := psw.Decode(b); p != want || ok != wantOK {
		t.Errorf("Decode of % X = %s, %v, want %s, %v", b, text(p), ok, text(want), wantOK)
	}
}

// TestDecode gives Decode the encodings of words, and each of the 256 bytes at each place of them (P6.2).
func TestDecode(t *testing.T) {
	for _, p := range words() {
		if q, ok := psw.Decode(fromBits(wantBits(p))); q != p || !ok {
			t.Errorf("Decode of % X = %s, %v, want %s", fromBits(wantBits(p)), text(q), ok, text(p))
		}
	}
	for _, p := range bases() {
		for place := range 8 {
			for x := range 256 {
				b := fromBits(wantBits(p))
				b[place] = byte(x)
				checkDecode(t, b)
			}
		}
	}
}

// TestDecodeUnused checks that the bit 08 of the second byte is the only one that no encoding has (P6.2).
func TestDecodeUnused(t *testing.T) {
	for _, p := range words() {
		for place := range 64 {
			b := fromBits(wantBits(p))
			b[place/8] |= 0x80 >> (place % 8)
			q, ok := psw.Decode(b)
			if ok != (place != 12) || !ok && q != (api.PSW{}) {
				t.Fatalf("Decode of % X = %s, %v", b, text(q), ok)
			}
		}
	}
}

// TestDecodeLength gives Decode sequences of many lengths, and no bytes (P6.2).
func TestDecodeLength(t *testing.T) {
	for _, fill := range []byte{0x00, 0x01, 0x77, 0x80, 0xF7, 0xFF} {
		long := slices.Repeat([]byte{fill}, 1000)
		for _, n := range []int{0, 1, 2, 3, 4, 5, 6, 7, 8, 9, 10, 12, 15, 16, 17, 24, 32, 40, 256, 264, 1000} {
			checkDecode(t, long[:n])
			checkDecode(t, slices.Clone(long[:n]))
		}
	}
	for _, b := range [][]byte{nil, {}} {
		if p, ok := psw.Decode(b); p != (api.PSW{}) || ok {
			t.Errorf("Decode of no bytes = %s, %v", text(p), ok)
		}
	}
}

// beside are numbers around the small ones that are meant, and some that are far away.
func beside(from, to int) []int {
	all := []int{
		math.MinInt, math.MinInt + 1, -1 << 32, 1<<32 - 1, 1 << 32, 1<<32 + 1, 1<<32 + 3, 1 << 8, 1<<8 + 3, 1 << 16, 63, 64, 65,
		math.MaxInt - 1, math.MaxInt,
	}
	for n := from; n <= to; n++ {
		all = append(all, n)
	}
	return all
}

// TestBranch is P6.3, for every mask with every condition code and for those beside.
func TestBranch(t *testing.T) {
	for _, mask := range beside(-20, 40) {
		for _, cc := range beside(-10, 12) {
			want := false
			if mask >= 0 && mask <= 15 && cc >= 0 && cc <= 3 {
				want = fmt.Sprintf("%04b", mask)[cc] == '1'
			}
			if got := psw.Branch(mask, cc); got != want {
				t.Errorf("Branch of %d and %d = %v, want %v", mask, cc, got, want)
			}
		}
	}
}

// ask is a question to Admits.
type ask struct {
	p                    api.PSW
	class, code, channel int
}

func (a ask) String() string {
	return fmt.Sprintf("%s with class %d, code %d, channel %d", text(a.p), a.class, a.code, a.channel)
}

func checkAdmits(t *testing.T, a ask) {
	t.Helper()
	want := wantAdmits(a.p, a.class, a.code, a.channel)
	if got := psw.Admits(a.p, a.class, a.code, a.channel); got != want {
		t.Errorf("Admits of %v = %v, want %v", a, got, want)
	}
}

// TestAdmitsChannels gives Admits all system masks with all channels and those beside (P6.4).
func TestAdmitsChannels(t *testing.T) {
	for _, p := range bases() {
		for mask := range 256 {
			p.Mask = mask
			for _, channel := range beside(-10, 70) {
				checkAdmits(t, ask{p, api.ClassIO, 0, channel})
				checkAdmits(t, ask{p, api.ClassExternal, 0, channel})
			}
		}
	}
}

// TestAdmitsProgram gives Admits all program masks with all codes and those beside (P6.4).
func TestAdmitsProgram(t *testing.T) {
	for _, p := range bases() {
		for prog := range 16 {
			p.Prog = prog
			for _, code := range beside(-10, 300) {
				checkAdmits(t, ask{p, api.ClassProgram, code, 0})
			}
		}
	}
}

// TestAdmitsClasses gives Admits all classes and those beside, with arguments that the class does not mention (P6.4).
func TestAdmitsClasses(t *testing.T) {
	for _, p := range words() {
		for class := -3; class <= 9; class++ {
			for _, code := range []int{-1, 0, 1, 8, 9, 10, 11, 12, math.MaxInt} {
				for _, channel := range []int{-1, 0, 3, 6, 7, math.MinInt} {
					checkAdmits(t, ask{p, class, code, channel})
				}
			}
		}
	}
	for _, p := range bases() {
		for _, class := range beside(-300, 300) {
			checkAdmits(t, ask{p, class, api.CodeData, 1})
		}
	}
}

// TestAdmitsAlone has each bit of the masks alone, and what it admits (P6.4).
func TestAdmitsAlone(t *testing.T) {
	asks := []ask{
		{api.PSW{Mask: 0x80}, api.ClassIO, 0, 0},
		{api.PSW{Mask: 0x40}, api.ClassIO, 0, 1},
		{api.PSW{Mask: 0x20}, api.ClassIO, 0, 2},
		{api.PSW{Mask: 0x10}, api.ClassIO, 0, 3},
		{api.PSW{Mask: 0x08}, api.ClassIO, 0, 4},
		{api.PSW{Mask: 0x04}, api.ClassIO, 0, 5},
		{api.PSW{Mask: 0x02}, api.ClassIO, 0, 6},
		{api.PSW{Mask: 0x01}, api.ClassExternal, 0, 0},
		{api.PSW{Machine: true}, api.ClassMachine, 0, 0},
		{api.PSW{Prog: 8}, api.ClassProgram, api.CodeOverflow, 0},
		{api.PSW{Prog: 4}, api.ClassProgram, api.CodeDecOver, 0},
	}
	for i, word := range asks {
		for j, a := range asks {
			if got := psw.Admits(word.p, a.class, a.code, a.channel); got != (i == j) {
				t.Errorf("Admits of %v = %v", ask{word.p, a.class, a.code, a.channel}, got)
			}
		}
	}
}

// TestAdmitsNothing is the first sentence of P6.4.
func TestAdmitsNothing(t *testing.T) {
	for _, p := range invalid() {
		for class := -1; class <= 7; class++ {
			for _, code := range []int{0, api.CodeOperation, api.CodeOverflow, api.CodeDecOver, api.CodeDecDivide} {
				for channel := range 7 {
					if a := (ask{p, class, code, channel}); psw.Admits(a.p, a.class, a.code, a.channel) {
						t.Errorf("Admits of %v", a)
					}
				}
			}
		}
	}
}

// TestAdvance is P6.5, for every n from -40 to 40 and some that are far away.
func TestAdvance(t *testing.T) {
	for _, p := range words() {
		for _, n := range beside(-40, 40) {
			want := p
			if n == 2 || n == 4 || n == 6 {
				want.Addr = int(uint32(p.Addr+n) << 8 >> 8)
				want.ILC = map[int]int{2: 1, 4: 2, 6: 3}[n]
			}
			if got := psw.Advance(p, n); got != want {
				t.Errorf("Advance of %s by %d = %s, want %s", text(p), n, text(got), text(want))
			}
		}
	}
}

// TestAdvanceEnd goes over the end of the addresses (P6.5).
func TestAdvanceEnd(t *testing.T) {
	for below := range 10 {
		for _, n := range []int{2, 4, 6} {
			want := api.PSW{Addr: n - below, ILC: n / 2}
			if want.Addr < 0 {
				want.Addr += 1 << 24
			}
			from := api.PSW{Addr: 1<<24 - below}
			if below == 0 {
				from.Addr = 0
			}
			if got := psw.Advance(from, n); got != want {
				t.Errorf("Advance of %s by %d = %s, want %s", text(from), n, text(got), text(want))
			}
		}
	}
}

// TestAdvanceInvalid is the second sentence of P6.5 for words that are not valid.
func TestAdvanceInvalid(t *testing.T) {
	for _, p := range invalid() {
		for _, n := range beside(-8, 10) {
			if got := psw.Advance(p, n); got != p {
				t.Errorf("Advance of %s by %d = %s", text(p), n, text(got))
			}
		}
	}
}
