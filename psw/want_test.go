package psw_test

import (
	"fmt"
	"math"
	"strconv"

	"jobshop/api"
)

// The expected results are computed on binary text: a program status word is a row of 64 binary digits, and a mask is a row in which the place of a digit tells what it admits.

// number is a field of a program status word that is a number: how many binary digits it has, and where it is.
type number struct {
	name   string
	digits int
	of     func(p *api.PSW) *int
}

func numbers() []number {
	return []number{
		{"Mask", 8, func(p *api.PSW) *int { return &p.Mask }},
		{"Key", 4, func(p *api.PSW) *int { return &p.Key }},
		{"Code", 16, func(p *api.PSW) *int { return &p.Code }},
		{"ILC", 2, func(p *api.PSW) *int { return &p.ILC }},
		{"CC", 2, func(p *api.PSW) *int { return &p.CC }},
		{"Prog", 4, func(p *api.PSW) *int { return &p.Prog }},
		{"Addr", 24, func(p *api.PSW) *int { return &p.Addr }},
	}
}

// max returns the greatest value of the field.
func (n number) max() int { return 1<<n.digits - 1 }

// with returns p with the value v in the field.
func (n number) with(p api.PSW, v int) api.PSW {
	*n.of(&p) = v
	return p
}

// inside are values of the field: both ends, each binary digit alone, all but it, and some between.
func (n number) inside() []int {
	values := []int{0, n.max(), n.max() / 3, n.max() / 5 * 3}
	for i := range n.digits {
		values = append(values, 1<<i, n.max()-1<<i)
	}
	return values
}

// outside are values that the field cannot have: the ones beyond its ends, those whose last digits would be a value, and the ends of an int.
func (n number) outside() []int {
	return []int{
		-1, -2, -n.max(), -n.max() - 1, -n.max() - 2, n.max() + 1, n.max() + 2, 2*n.max() + 1, 2 * (n.max() + 1),
		1 << 32, 1<<32 + 1, -1 << 32, 1<<32 - 1, 1 << 56, math.MaxInt32 + 1, math.MinInt32, math.MaxInt, math.MaxInt - 1, math.MinInt, math.MinInt + 1,
	}
}

// bases are words with different contents in all fields.
func bases() []api.PSW {
	return []api.PSW{
		{},
		{Mask: 255, Key: 15, Machine: true, Wait: true, Problem: true, Code: 65535, ILC: 3, CC: 3, Prog: 15, Addr: 1<<24 - 1},
		{Mask: 0x92, Key: 0x5, Wait: true, Code: 0x1234, ILC: 1, CC: 2, Prog: 0x9, Addr: 0xABCDEF},
		{Mask: 0x6D, Key: 0xA, Machine: true, Problem: true, Code: 0xFEDC, ILC: 2, CC: 1, Prog: 0x6, Addr: 0x543210},
	}
}

// flagged returns p with each combination of the flags.
func flagged(p api.PSW) []api.PSW {
	var all []api.PSW
	for i := range 8 {
		p.Machine, p.Wait, p.Problem = i/4 == 1, i/2%2 == 1, i%2 == 1
		all = append(all, p)
	}
	return all
}

// words are valid words: the bases with each value of each field and all combinations of the flags.
func words() []api.PSW {
	var all []api.PSW
	for _, p := range bases() {
		for _, n := range numbers() {
			for _, v := range n.inside() {
				all = append(all, flagged(n.with(p, v))...)
			}
		}
	}
	return all
}

// invalid are words that are not valid: each field alone out of its range, and all of them.
func invalid() []api.PSW {
	var all []api.PSW
	for _, p := range bases() {
		for _, n := range numbers() {
			for _, v := range n.outside() {
				all = append(all, flagged(n.with(p, v))...)
			}
		}
	}
	return append(all,
		api.PSW{Mask: -1, Key: -1, Code: -1, ILC: -1, CC: -1, Prog: -1, Addr: -1},
		api.PSW{Mask: 256, Key: 16, Code: 65536, ILC: 4, CC: 4, Prog: 16, Addr: 1 << 24})
}

// text shows a word with the names of its fields.
func text(p api.PSW) string { return fmt.Sprintf("%+v", p) }

func digit(set bool) string {
	if set {
		return "1"
	}
	return "0"
}

// wantBits returns the encoding of a valid word as binary digits.
func wantBits(p api.PSW) string {
	return fmt.Sprintf("%08b%04b", p.Mask, p.Key) +
		"0" + digit(p.Machine) + digit(p.Wait) + digit(p.Problem) +
		fmt.Sprintf("%016b%02b%02b%04b%024b", p.Code, p.ILC, p.CC, p.Prog, p.Addr)
}

// toBits returns the binary digits of b.
func toBits(b []byte) string {
	s := ""
	for _, x := range b {
		s += fmt.Sprintf("%08b", x)
	}
	return s
}

// fromBits returns the bytes with the binary digits.
func fromBits(s string) []byte {
	var b []byte
	for ; s != ""; s = s[8:] {
		b = append(b, byte(value(s[:8])))
	}
	return b
}

// value returns the number with the binary digits.
func value(s string) int {
	n, err := strconv.ParseUint(s, 2, 32)
	if err != nil {
		panic(err)
	}
	return int(n)
}

// wantDecode returns the word whose encoding has the binary digits.
func wantDecode(s string) (api.PSW, bool) {
	if len(s) != 64 || s[12] == '1' {
		return api.PSW{}, false
	}
	p := api.PSW{Machine: s[13] == '1', Wait: s[14] == '1', Problem: s[15] == '1'}
	s = s[:12] + s[16:]
	for _, n := range numbers() {
		p = n.with(p, value(s[:n.digits]))
		s = s[n.digits:]
	}
	return p, true
}

// wantAdmits returns what a valid word admits.
func wantAdmits(p api.PSW, class, code, channel int) bool {
	mask, prog := fmt.Sprintf("%08b", p.Mask), fmt.Sprintf("%04b", p.Prog)
	switch class {
	case 1:
		return mask[7] == '1'
	case 2:
		return true
	case 3:
		masked := map[int]bool{8: prog[0] == '1', 10: prog[1] == '1', 1: true, 2: true, 3: true, 4: true, 5: true, 6: true, 7: true, 9: true, 11: true}
		return masked[code]
	case 4:
		return p.Machine
	case 5:
		return channel >= 0 && channel < 7 && mask[channel] == '1'
	}
	return false
}
