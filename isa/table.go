package isa

import (
	"iter"
	"strings"

	"jobshop/api"
)

// row is a row of the table, which describes an instruction in rowSize bytes: the operation code; the mnemonic and the format, padded with blanks; a star if the instruction is privileged; and a bar at the end.
type row string

// Where the parts of a row are.
const (
	codeAt   = 0
	nameAt   = 2
	nameSize = 4
	formAt   = 7
	formSize = 3
	starAt   = 10
	rowSize  = 12
)

// table has the rows of all instructions in ascending order of their operation codes.
const table = "" +
	"\x04 SPM  RR1 |\x05 BALR RR  |\x06 BCTR RR  |\x07 BCR  RR  |" +
	"\x08 SSK  RR *|\x09 ISK  RR *|\x0A SVC  RRI |\x10 LPR  RR  |" +
	"\x11 LNR  RR  |\x12 LTR  RR  |\x13 LCR  RR  |\x14 NR   RR  |" +
	"\x15 CLR  RR  |\x16 OR   RR  |\x17 XR   RR  |\x18 LR   RR  |" +
	"\x19 CR   RR  |\x1A AR   RR  |\x1B SR   RR  |\x1C MR   RR  |" +
	"\x1D DR   RR  |\x1E ALR  RR  |\x1F SLR  RR  |\x40 STH  RX  |" +
	"\x41 LA   RX  |\x42 STC  RX  |\x43 IC   RX  |\x44 EX   RX  |" +
	"\x45 BAL  RX  |\x46 BCT  RX  |\x47 BC   RX  |\x48 LH   RX  |" +
	"\x49 CH   RX  |\x4A AH   RX  |\x4B SH   RX  |\x4C MH   RX  |" +
	"\x4E CVD  RX  |\x4F CVB  RX  |\x50 ST   RX  |\x54 N    RX  |" +
	"\x55 CL   RX  |\x56 O    RX  |\x57 X    RX  |\x58 L    RX  |" +
	"\x59 C    RX  |\x5A A    RX  |\x5B S    RX  |\x5C M    RX  |" +
	"\x5D D    RX  |\x5E AL   RX  |\x5F SL   RX  |\x80 SSM  S  *|" +
	"\x82 LPSW S  *|\x86 BXH  RS  |\x87 BXLE RS  |\x88 SRL  RS  |" +
	"\x89 SLL  RS  |\x8A SRA  RS  |\x8B SLA  RS  |\x8C SRDL RS  |" +
	"\x8D SLDL RS  |\x8E SRDA RS  |\x8F SLDA RS  |\x90 STM  RS  |" +
	"\x91 TM   SI  |\x92 MVI  SI  |\x93 TS   S   |\x94 NI   SI  |" +
	"\x95 CLI  SI  |\x96 OI   SI  |\x97 XI   SI  |\x98 LM   RS  |" +
	"\x9C SIO  S  *|\x9D TIO  S  *|\x9E HIO  S  *|\x9F TCH  S  *|" +
	"\xD1 MVN  SS  |\xD2 MVC  SS  |\xD3 MVZ  SS  |\xD4 NC   SS  |" +
	"\xD5 CLC  SS  |\xD6 OC   SS  |\xD7 XC   SS  |\xDC TR   SS  |" +
	"\xDD TRT  SS  |\xDE ED   SS  |\xDF EDMK SS  |\xF0 SRP  SS2 |" +
	"\xF1 MVO  SS2 |\xF2 PACK SS2 |\xF3 UNPK SS2 |\xF8 ZAP  SS2 |" +
	"\xF9 CP   SS2 |\xFA AP   SS2 |\xFB SP   SS2 |\xFC MP   SS2 |" +
	"\xFD DP   SS2 |"

func (r row) code() int {
	return int(r[codeAt])
}

func (r row) name() string {
	return strings.TrimRight(string(r[nameAt:nameAt+nameSize]), " ")
}

func (r row) form() int {
	switch r[formAt : formAt+formSize] {
	case "RR ":
		return api.FormRR
	case "RR1":
		return api.FormRR1
	case "RRI":
		return api.FormRRI
	case "RX ":
		return api.FormRX
	case "RS ":
		return api.FormRS
	case "SI ":
		return api.FormSI
	case "S  ":
		return api.FormS
	case "SS ":
		return api.FormSS
	}
	return api.FormSS2
}

func (r row) privileged() bool {
	return r[starAt] == '*'
}

// rows yields the rows of the table.
func rows() iter.Seq[row] {
	return func(yield func(row) bool) {
		for at := 0; at < len(table); at += rowSize {
			if !yield(row(table[at : at+rowSize])) {
				return
			}
		}
	}
}

// withCode returns the row of an operation code, and whether the code exists.
func withCode(op int) (row, bool) {
	if op < 0 || op > maxCode {
		return "", false
	}
	return search(codeAt, string([]byte{byte(op)}))
}

// withName returns the row of a mnemonic, and whether there is one.
func withName(name string) (row, bool) {
	if len(name) > nameSize {
		return "", false
	}
	r, ok := search(nameAt, name+strings.Repeat(" ", nameSize-len(name)))
	if !ok || r.name() != name {
		return "", false
	}
	return r, true
}

// search returns the first row that has the text at the place, and whether there is one. The text must fit the row.
func search(place int, text string) (row, bool) {
next:
	for r := range rows() {
		for i := range len(text) {
			if r[place+i] != text[i] {
				continue next
			}
		}
		return r, true
	}
	return "", false
}
