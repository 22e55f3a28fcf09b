package decops_test

import (
	"fmt"
	"math/big"
	"strconv"
	"strings"

	"jobshop/api"
)

// The expected results are computed by a model that uses none of the lower layers: fields are texts of hexadecimal digits, numbers are exact, each byte of storage has the number of its key by itself, and a byte of the source of ED is fetched when the pattern needs it.

// codes are the codes of the decimal instructions, by format.
const codes = `
FormRX | 4E CVD, 4F CVB
FormSS | DE ED, DF EDMK
FormSS2 | F0 SRP, F1 MVO, F2 PACK, F3 UNPK, F8 ZAP, F9 CP, FA AP, FB SP, FC MP, FD DP
`

// instruction is a decimal instruction.
type instruction struct {
	op   int
	name string
	form int
}

func formOf(name string) int {
	return map[string]int{"FormRX": api.FormRX, "FormSS": api.FormSS, "FormSS2": api.FormSS2}[name]
}

// readCodes returns the decimal instructions, in the order of the table.
func readCodes() []instruction {
	var all []instruction
	for line := range strings.Lines(strings.TrimSpace(codes)) {
		form, list, _ := strings.Cut(strings.TrimSpace(line), " | ")
		for _, pair := range strings.Split(list, ", ") {
			code, name, _ := strings.Cut(pair, " ")
			op, _ := strconv.ParseInt(code, 16, 0)
			all = append(all, instruction{int(op), name, formOf(form)})
		}
	}
	return all
}

// known are the decimal instructions, named the names by operation code.
var (
	known = readCodes()
	named = readNames()
)

func readNames() map[int]string {
	names := map[int]string{}
	for _, in := range readCodes() {
		names[in.op] = in.name
	}
	return names
}

// isOneOf reports whether the list has the name.
func isOneOf(name, list string) bool {
	return strings.Contains(" "+list+" ", " "+name+" ")
}

// model is a processor's registers and program status word, and main storage: for each address the byte, and the number that stands for its key and fetch protection.
type model struct {
	regs            api.Regs
	psw             api.PSW
	values, numbers []byte
}

func number(v int64) *big.Int { return big.NewInt(v) }

func power(n int) *big.Int { return new(big.Int).Exp(number(10), number(int64(n)), nil) }

func plus(v, w *big.Int) *big.Int { return new(big.Int).Add(v, w) }

func minus(v, w *big.Int) *big.Int { return new(big.Int).Sub(v, w) }

func times(v, w *big.Int) *big.Int { return new(big.Int).Mul(v, w) }

// field is a packed field: whether it is valid, its number, and whether it has a minus sign.
type field struct {
	valid, minus bool
	v            *big.Int
}

// read returns the packed field with the hexadecimal digits.
func read(text string) field {
	last := len(text) - 1
	v, ok := new(big.Int).SetString(text[:last], 10)
	if !ok || !strings.Contains("ABCDEF", text[last:]) {
		return field{}
	}
	f := field{valid: true, minus: strings.Contains("BD", text[last:]), v: v}
	if f.minus {
		v.Neg(v)
	}
	return f
}

// right returns the last n characters of the text, with zeros before it if it has fewer.
func right(text string, n int) string {
	return (strings.Repeat("0", n) + text)[len(text):]
}

// write returns the digits of the packed field of n bytes for v, and whether v has more digits.
func write(v *big.Int, minus bool, n int) (string, bool) {
	digits := new(big.Int).Abs(v).String()
	sign := map[bool]string{false: "C", true: "D"}[minus]
	return right(digits, 2*n-1) + sign, len(digits) > 2*n-1
}

// address returns the address that the registers and the displacement give.
func (m *model) address(displacement int, numbers ...int) int {
	sum := displacement
	for _, n := range numbers {
		if n > 0 && n < 16 {
			sum += int(m.regs[n])
		}
	}
	return sum % (1 << 24)
}

// access returns the code of an access to n bytes from addr on, byte for byte.
func (m *model) access(addr, n int, storing bool) int {
	code := 0
	for at := addr; at < addr+n; at++ {
		if at < 0 || at >= len(m.values) {
			return 5
		}
		key, locked := int(m.numbers[at]>>1), m.numbers[at]&1 == 1
		if m.psw.Key != 0 && m.psw.Key != key && (storing || locked) {
			code = 4
		}
	}
	return code
}

// fetch returns the hexadecimal digits of the n bytes from addr on, and the code.
func (m *model) fetch(addr, n int) (string, int) {
	if code := m.access(addr, n, false); code != 0 {
		return "", code
	}
	return fmt.Sprintf("%X", m.values[addr:addr+n]), 0
}

// store stores the bytes with the hexadecimal digits, and returns the code.
func (m *model) store(addr int, text string) int {
	code := m.access(addr, len(text)/2, true)
	if code == 0 {
		copy(m.values[addr:], bytesOf(text))
	}
	return code
}

// sign sets the condition code to that of v.
func (m *model) sign(v *big.Int) { m.psw.CC = []int{1, 0, 2}[v.Sign()+1] }

// settle stores v in n bytes at addr and sets the condition code, also for an overflow.
func (m *model) settle(addr, n int, v *big.Int) int {
	text, over := write(v, v.Sign() < 0, n)
	if code := m.store(addr, text); code != 0 {
		return code
	}
	if !over {
		m.sign(v)
		return 0
	}
	m.psw.CC = 3
	if m.psw.Prog/4%2 == 1 {
		return 10
	}
	return 0
}

// run executes an instruction and returns its code. Where that is neither 0 nor 10, the model is of no use any more.
func (m *model) run(i api.Ins) int {
	a1, a := m.address(i.D1, i.B1), m.address(i.D2, i.B2, i.X2)
	n1, n2 := i.L1+1, i.L2+1
	switch name := named[i.Op]; name {
	case "CVB":
		return m.toBinary(a, i.R1)
	case "CVD":
		return m.toDecimal(a, i.R1)
	case "PACK", "UNPK", "ZAP":
		y, code := m.fetch(a, n2)
		if code != 0 {
			return code
		}
		return m.single(name, a1, n1, y)
	case "SRP":
		x, code := m.fetch(a1, n1)
		if code != 0 {
			return code
		}
		return m.shift(a1, x, a%64, i.L2)
	case "ED", "EDMK":
		return m.edit(a1, n1, a, name == "EDMK")
	case "MP", "DP":
		if n2 > 8 || n2 >= n1 {
			return 6
		}
		return m.double(name, a1, n1, a, n2)
	default:
		return m.double(name, a1, n1, a, n2)
	}
}

func (m *model) toBinary(a, r1 int) int {
	if a%8 != 0 {
		return 6
	}
	text, code := m.fetch(a, 8)
	if code != 0 {
		return code
	}
	f := read(text)
	if !f.valid {
		return 7
	}
	if f.v.Cmp(number(1<<31)) >= 0 || f.v.Cmp(number(-1<<31)) < 0 {
		return 9
	}
	m.regs[r1] = uint32(f.v.Int64() & 0xFFFFFFFF)
	return 0
}

// signed returns the signed number in a register.
func (m *model) signed(r int) *big.Int {
	v := number(int64(m.regs[r]))
	if m.regs[r] >= 1<<31 {
		return minus(v, number(1<<32))
	}
	return v
}

func (m *model) toDecimal(a, r1 int) int {
	if a%8 != 0 {
		return 6
	}
	v := m.signed(r1)
	text, _ := write(v, v.Sign() < 0, 8)
	return m.store(a, text)
}

// single executes the instructions that fetch only the second operand, whose digits are those of the text.
func (m *model) single(name string, a1, n1 int, y string) int {
	before, last := y[:len(y)-2], y[len(y)-1:]+y[len(y)-2:len(y)-1]
	switch name {
	case "PACK":
		digits := ""
		for k := 1; k < len(before); k += 2 {
			digits += before[k : k+1]
		}
		return m.store(a1, right(digits, 2*n1-2)+last)
	case "UNPK":
		zoned := ""
		for _, digit := range right(before, n1-1) {
			zoned += "F" + string(digit)
		}
		return m.store(a1, zoned+last)
	}
	f := read(y)
	if !f.valid {
		return 7
	}
	return m.settle(a1, n1, f.v)
}

// double executes the instructions that fetch both operands.
func (m *model) double(name string, a1, n1, a, n2 int) int {
	first, code := m.fetch(a1, n1)
	if code != 0 {
		return code
	}
	second, code := m.fetch(a, n2)
	if code != 0 {
		return code
	}
	if name == "MVO" {
		return m.store(a1, right(second, 2*n1-1)+first[len(first)-1:])
	}
	x, y := read(first), read(second)
	if !x.valid || !y.valid {
		return 7
	}
	switch name {
	case "AP":
		return m.settle(a1, n1, plus(x.v, y.v))
	case "SP":
		return m.settle(a1, n1, minus(x.v, y.v))
	case "CP":
		m.sign(minus(x.v, y.v))
		return 0
	case "MP":
		if strings.Trim(first[:2*n2], "0") != "" {
			return 7
		}
		product, _ := write(times(x.v, y.v), x.minus != y.minus, n1)
		return m.store(a1, product)
	}
	return m.divide(a1, x, y, n1-n2, n2)
}

// divide stores the quotient in n bytes and the remainder in n2 bytes.
func (m *model) divide(a1 int, x, y field, n, n2 int) int {
	if y.v.Sign() == 0 {
		return 11
	}
	quotient, rest := new(big.Int).QuoRem(x.v, y.v, new(big.Int))
	left, over := write(quotient, x.minus != y.minus, n)
	if over {
		return 11
	}
	behind, _ := write(rest, x.minus, n2)
	return m.store(a1, left+behind)
}

// shift executes SRP of the first operand, whose digits are those of the text. Rounding adds the digit to the first place that is dropped.
func (m *model) shift(a1 int, text string, places, digit int) int {
	f := read(text)
	if !f.valid || digit > 9 {
		return 7
	}
	v := new(big.Int).Abs(f.v)
	if places < 32 {
		v = times(v, power(places))
	} else {
		v = plus(v, times(number(int64(digit)), power(63-places)))
		v = new(big.Int).Div(v, power(64-places))
	}
	if f.minus {
		v.Neg(v)
	}
	return m.settle(a1, len(text)/2, v)
}

// edit executes ED, and EDMK if it marks.
func (m *model) edit(a1, n1, a int, marks bool) int {
	pattern, code := m.fetch(a1, n1)
	if code != 0 {
		return code
	}
	text, fill := "", pattern[:2]
	shows, nonzero, mark, half := false, false, -1, 0
	for k := 0; k < len(pattern); k += 2 {
		switch kind := pattern[k : k+2]; kind {
		case "20", "21":
			halves, code := m.fetch(a+half/2, 1)
			if code != 0 {
				return code
			}
			digit := halves[half%2 : half%2+1]
			if digit > "9" {
				return 7
			}
			half++
			if digit > "0" && !shows {
				mark = a1 + k/2
			}
			nonzero = nonzero || digit > "0"
			shows = shows || digit > "0"
			text += map[bool]string{false: fill, true: "F" + digit}[shows]
			shows = shows || kind == "21"
			if half%2 == 1 && halves[1:] > "9" {
				half++
				shows = shows && strings.Contains("BD", halves[1:])
			}
		case "22":
			text += fill
			shows, nonzero = false, false
		default:
			text += map[bool]string{false: fill, true: kind}[shows]
		}
	}
	if code := m.store(a1, text); code != 0 {
		return code
	}
	m.psw.CC = map[bool]int{false: 2, true: 1}[shows]
	if !nonzero {
		m.psw.CC = 0
	}
	if marks && mark >= 0 {
		m.regs[1] = m.regs[1]>>24<<24 + uint32(mark)
	}
	return 0
}
