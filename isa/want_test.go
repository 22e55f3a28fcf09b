package isa_test

import (
	"fmt"
	"math"
	"strconv"
	"strings"

	"jobshop/api"
)

// The expected results are computed on text: the instructions are read from the chapter's table, and the bytes of an instruction are hexadecimal digits, for which a pattern says which field each of them belongs to.

// chapter is the chapter's table of the operation codes that exist.
const chapter = `
FormRR1 | 04 SPM
FormRR | 05 BALR, 06 BCTR, 07 BCR, 08 SSK, 09 ISK, 10 LPR, 11 LNR, 12 LTR, 13 LCR, 14 NR, 15 CLR, 16 OR, 17 XR, 18 LR, 19 CR, 1A AR, 1B SR, 1C MR, 1D DR, 1E ALR, 1F SLR
FormRRI | 0A SVC
FormRX | 40 STH, 41 LA, 42 STC, 43 IC, 44 EX, 45 BAL, 46 BCT, 47 BC, 48 LH, 49 CH, 4A AH, 4B SH, 4C MH, 4E CVD, 4F CVB, 50 ST, 54 N, 55 CL, 56 O, 57 X, 58 L, 59 C, 5A A, 5B S, 5C M, 5D D, 5E AL, 5F SL
FormRS | 86 BXH, 87 BXLE, 88 SRL, 89 SLL, 8A SRA, 8B SLA, 8C SRDL, 8D SLDL, 8E SRDA, 8F SLDA, 90 STM, 98 LM
FormSI | 91 TM, 92 MVI, 94 NI, 95 CLI, 96 OI, 97 XI
FormS | 80 SSM, 82 LPSW, 93 TS, 9C SIO, 9D TIO, 9E HIO, 9F TCH
FormSS | D1 MVN, D2 MVC, D3 MVZ, D4 NC, D5 CLC, D6 OC, D7 XC, DC TR, DD TRT, DE ED, DF EDMK
FormSS2 | F0 SRP, F1 MVO, F2 PACK, F3 UNPK, F8 ZAP, F9 CP, FA AP, FB SP, FC MP, FD DP
`

// privileged are the mnemonics of the privileged instructions.
const privileged = "SSK ISK SSM LPSW SIO TIO HIO TCH"

// extended are the extended mnemonics of BC with their masks.
const extended = "B 15, NOP 0, BH 2, BL 4, BE 8, BNH 13, BNL 11, BNE 7, BO 1, BP 2, BM 4, BZ 8, BNP 13, BNM 11, BNZ 7, BNO 14"

// format is a format: its constant, and the pattern of the hexadecimal digits after the operation code, each one with the letter of its field or 0.
type format struct {
	name    string
	form    int
	pattern string
}

func formats() []format {
	return []format{
		{"FormRR", api.FormRR, "rs"},
		{"FormRR1", api.FormRR1, "r0"},
		{"FormRRI", api.FormRRI, "ii"},
		{"FormRX", api.FormRX, "rxceee"},
		{"FormRS", api.FormRS, "rsceee"},
		{"FormSI", api.FormSI, "iibddd"},
		{"FormS", api.FormS, "00bddd"},
		{"FormSS", api.FormSS, "llbdddceee"},
		{"FormSS2", api.FormSS2, "lmbdddceee"},
	}
}

// letters are the letters of the fields.
const letters = "rsxbdcelmi"

// field returns the field of i that has the letter.
func field(i *api.Ins, letter rune) *int {
	switch letter {
	case 'r':
		return &i.R1
	case 's':
		return &i.R2
	case 'x':
		return &i.X2
	case 'b':
		return &i.B1
	case 'd':
		return &i.D1
	case 'c':
		return &i.B2
	case 'e':
		return &i.D2
	case 'l':
		return &i.L1
	case 'm':
		return &i.L2
	}
	return &i.I2
}

// instruction is an instruction of the chapter's table.
type instruction struct {
	op         int
	name       string
	format     format
	privileged bool
}

// has reports whether the format of the instruction has the field with the letter.
func (in instruction) has(letter rune) bool {
	return strings.ContainsRune(in.format.pattern, letter)
}

// max returns the greatest value of the field with the letter.
func (in instruction) max(letter rune) int {
	return 1<<(4*strings.Count(in.format.pattern, string(letter))) - 1
}

// length returns the number of bytes.
func (in instruction) length() int {
	return 1 + len(in.format.pattern)/2
}

// fields returns the letters of the fields that the instruction has.
func (in instruction) fields() string {
	all := ""
	for _, letter := range letters {
		if in.has(letter) {
			all += string(letter)
		}
	}
	return all
}

// fill returns the instruction with the value that of returns in each of its fields.
func (in instruction) fill(of func(max int) int) api.Ins {
	i := api.Ins{Op: in.op, Form: in.format.form}
	for _, letter := range in.fields() {
		*field(&i, letter) = of(in.max(letter))
	}
	return i
}

// bases are valid instructions with different contents in all fields.
func (in instruction) bases() []api.Ins {
	count := 0
	return []api.Ins{
		in.fill(func(int) int { return 0 }),
		in.fill(func(max int) int { return max }),
		in.fill(func(max int) int { count++; return (count*0x6B5 + 0x123) & max }),
		in.fill(func(max int) int { count++; return (count*0x3A9 + 0xC71) & max }),
	}
}

// with returns i with the value v in the field with the letter.
func with(i api.Ins, letter rune, v int) api.Ins {
	*field(&i, letter) = v
	return i
}

// inside are values from 0 to max: both ends, each binary digit alone, all but it, and some between.
func inside(max int) []int {
	values := []int{0, max, max / 3, max / 5 * 3}
	for bit := 1; bit <= max; bit *= 2 {
		values = append(values, bit, max-bit)
	}
	return values
}

// outside are values that are not from 0 to max: the ones beyond the ends, those whose last digits would be a value, and the ends of an int.
func outside(max int) []int {
	return append(far(), -1, -2, -max, -max-1, -max-2, max+1, max+2, 2*max+1, 2*max+2, 16*max+16, 1<<16, 1<<16+max)
}

// far are numbers that are no value of any field, format or operation code, although the last digits of most would be one.
func far() []int {
	return []int{
		math.MinInt, math.MinInt + 1, math.MinInt + 0x1A, math.MaxInt - 1, math.MaxInt,
		-1 << 32, 1<<32 - 1, 1 << 32, 1<<32 + 1, 1<<32 + 0x1A, 1<<56 + 0x58, 1<<16 + 0x18, math.MaxInt32, math.MinInt32,
		1 << 40, 1 << 48, 1 << 62,
	}
}

// known are the instructions of the chapter, by their operation codes.
var known = instructions()

func instructions() map[int]instruction {
	all := map[int]instruction{}
	for _, line := range strings.Split(strings.TrimSpace(chapter), "\n") {
		name, row, _ := strings.Cut(line, " | ")
		for _, f := range formats() {
			if f.name != name {
				continue
			}
			for _, entry := range strings.Split(row, ", ") {
				code, name, _ := strings.Cut(entry, " ")
				op := fromHex(code)
				all[op] = instruction{op, name, f, contains(privileged, name)}
			}
		}
	}
	return all
}

// contains reports whether name is one of the words.
func contains(words, name string) bool {
	for _, word := range strings.Fields(words) {
		if word == name {
			return true
		}
	}
	return false
}

// branch is what Mask returns.
type branch struct {
	mask    int
	reg, ok bool
}

// extensions are the extended mnemonics with what Mask returns for them.
var extensions = branches()

func branches() map[string]branch {
	all := map[string]branch{}
	for _, entry := range strings.Split(extended, ", ") {
		name, digits, _ := strings.Cut(entry, " ")
		mask, err := strconv.Atoi(digits)
		if err != nil {
			panic(err)
		}
		all[name] = branch{mask, false, true}
		all[name+"R"] = branch{mask, true, true}
	}
	return all
}

// mnemonics are the operation codes by mnemonic.
var mnemonics = codes()

func codes() map[string]int {
	all := map[string]int{}
	for op, in := range known {
		all[in.name] = op
	}
	return all
}

// wantLength returns the number of bytes of the instructions with the operation code op.
func wantLength(op int) int {
	if op < 0 || op > 255 {
		return 0
	}
	return map[string]int{"00": 2, "01": 4, "10": 4, "11": 6}[fmt.Sprintf("%08b", op)[:2]]
}

// wantEncode returns the bytes of a valid instruction as hexadecimal digits.
func wantEncode(i api.Ins) string {
	in := known[i.Op]
	digits := map[rune]string{}
	for _, letter := range in.fields() {
		digits[letter] = fmt.Sprintf("%0*X", strings.Count(in.format.pattern, string(letter)), *field(&i, letter))
	}
	s := fmt.Sprintf("%02X", i.Op)
	for _, letter := range in.format.pattern {
		if letter == '0' {
			s += "0"
			continue
		}
		s += digits[letter][:1]
		digits[letter] = digits[letter][1:]
	}
	return s
}

// wantDecode returns the instruction at the beginning of bytes that are given as hexadecimal digits.
func wantDecode(s string) (api.Ins, bool) {
	if s == "" {
		return api.Ins{}, false
	}
	in, ok := known[fromHex(s[:2])]
	if !ok || len(s) < 2*in.length() {
		return api.Ins{}, false
	}
	i := api.Ins{Op: in.op, Form: in.format.form}
	for at, letter := range in.format.pattern {
		if letter != '0' {
			*field(&i, letter) = 16**field(&i, letter) + fromHex(s[2+at:3+at])
		}
	}
	return i, true
}

func toHex(b []byte) string { return fmt.Sprintf("%X", b) }

func fromHex(s string) int {
	n, err := strconv.ParseUint(s, 16, 32)
	if err != nil {
		panic(err)
	}
	return int(n)
}

// text shows an instruction with the names of its fields.
func text(i api.Ins) string { return fmt.Sprintf("%+v", i) }
