package cpu_test

import (
	"fmt"
	"strings"
	"testing"

	"jobshop/api"
)

// listed returns the name of an operation code of the processor itself, the list of another one, or nothing.
func listed(code string) string {
	switch {
	case isOneOf(code, generals):
		return "general"
	case isOneOf(code, decimals):
		return "decimal"
	}
	return named[code]
}

// tails are bytes that follow an operation code: operands in storage, at its end, beyond it, not divisible, and what is not a valid operand.
func tails() []string {
	return []string{
		"0001000180", "1003000380", "2203000388", "00017F0800", "1107FF07FF", "33A0014FFF", "FF00080008", "1007F807F0", "45F000F000", "0E03010305", "2107FC07FE", "F007F807F8", "9C53005310",
	}
}

// edges are registers with which some addresses are beyond storage, and some are blocks.
func edges() []api.Regs {
	r := api.Regs{}
	for n := range r {
		r[n] = []uint32{0x300, 0x800, 0xFF000FF0, 0x7FFFFFFF, 0xFFF0, 0xFFFFFF, 0x80000000, 0x310}[n%8] + uint32(n/8*16)
	}
	return []api.Regs{{}, r}
}

// TestEveryCode has every operation code with all sorts of bytes behind it, in the supervisor state and in the problem state, by itself and as the target of EX.
func TestEveryCode(t *testing.T) {
	x := newSetting(t, 0, 7)
	x.put(0x300, "00 00 00 00 00 00 12 3C 00 00 00 00 00 00 04 5D")
	x.put(0x380, "12 3C 40 20 20 21 20 00 0C")
	low := x.twin.Bytes(0, 2048)
	kinds := map[string]int{}
	for op := range 256 {
		code := fmt.Sprintf("%02X", op)
		for _, tail := range tails() {
			for _, regs := range edges() {
				for _, p := range []api.PSW{{Addr: at}, {Problem: true, Addr: at}, {Problem: true, Key: 3, CC: 2, Prog: 12, Addr: at}, {Key: 5, CC: 1, Mask: 3, Addr: at}} {
					for _, text := range []string{code + tail[:2*(sizeOf(code)-1)], "44000204"} {
						x.fill(0, low...)
						x.put(at+4, code+tail)
						x.load(p)
						x.set(regs)
						e, _ := x.run(text)
						kinds[listed(code)+" "+kindOf(e)]++
					}
				}
			}
		}
	}
	for _, want := range []string{" 1", "general -", "general 4", "general 5", "general 6", "decimal -", "decimal 7", "SVC call", "EX 3", "SSK -", "SSK 2", "ISK -", "ISK 2", "ISK 5", "ISK 6", "LPSW 6", "LPSW 2", "SIO asks", "SIO 2", "TCH asks", "TCH 2"} {
		check(t, kinds[want] > 0, "no instruction of the kind", want)
	}
	check(t, kinds[" -"] == 0 && kinds["SIO 4"] == 0 && kinds["SIO -"] == 0 && kinds["SVC 2"] == 0, "what may not be", kinds)
}

// kindOf returns what an instruction brought about: a program interruption, by its code, a call, a question, or nothing.
func kindOf(e api.Event) string {
	switch {
	case e.Class == api.ClassProgram:
		return fmt.Sprint(e.Code)
	case e.Class == api.ClassSvc:
		return "call"
	case e.Kind >= api.EvStart:
		return "asks"
	}
	return "-"
}

// TestNoSuchCode has every operation code that does not exist, by its length, in both states: CodeOperation also where it would be privileged.
func TestNoSuchCode(t *testing.T) {
	x := newSetting(t, 0)
	none := 0
	for op := range 256 {
		code := fmt.Sprintf("%02X", op)
		if listed(code) != "" {
			continue
		}
		none++
		for _, p := range []api.PSW{{Addr: at, Code: 0x1234}, {Problem: true, Key: 0, CC: 3, Addr: at, Code: 0x1234}} {
			x.load(p)
			x.fails(code+strings.Repeat("01", sizeOf(code)-1), 1)
			x.fails(code+strings.Repeat("FF", sizeOf(code)-1), 1)
		}
	}
	check(t, none == 256-97, "operation codes that do not exist", none)
}

// TestRefused has instructions that are decoded and refused, each with its code: nothing is changed but the program status words.
func TestRefused(t *testing.T) {
	x := newSetting(t, 0, 7, 8)
	p := x.psw
	p.Key = 5
	x.load(p)
	r := x.regs
	r[2], r[3], r[4], r[5] = 0, 0, 0x800, 0x1000
	x.set(r)
	x.put(0x300, "00 00 00 00 00 00 12 34 00 00 00 00 00 00 00 0C 00 00 09 99 99 99 99 9C")
	for _, q := range []struct {
		text string
		code int
	}{
		{"1C12", 6}, {"1D12", 6}, {"1D23", 9}, {"5D200308", 9}, {"58100301", 6}, {"48100301", 6}, {"9812FFFF", 6}, {"58104000", 4}, {"50105000", 4}, {"92005000", 4}, {"95004000", 4}, {"58105800", 5}, {"D2FF5F005F00", 5}, {"D20040000300", 4}, {"D20003004000", 4},
		{"4F100300", 7}, {"4F100310", 9}, {"4F100301", 6}, {"FD0003000300", 6}, {"FC7703000308", 6}, {"FD710300030F", 7}, {"FD710308030E", 11}, {"F81003004000", 4}, {"FA1003000308", 7},
	} {
		x.fails(q.text, q.code)
	}
}
