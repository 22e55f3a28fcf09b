package general_test

import (
	"math/big"
	"strconv"
	"strings"

	"jobshop/api"
)

// The expected results are computed by a model that uses none of the lower layers: numbers are exact, each byte of storage has the number of its key by itself, and what an instruction replaces is replaced in storage at once. The instructions are read from the tables of the chapters.

// codes are the codes of the general instructions, by format.
const codes = `
FormRR1 | 04 SPM
FormRR | 05 BALR, 06 BCTR, 07 BCR, 10 LPR, 11 LNR, 12 LTR, 13 LCR, 14 NR, 15 CLR, 16 OR, 17 XR, 18 LR, 19 CR, 1A AR, 1B SR, 1C MR, 1D DR, 1E ALR, 1F SLR
FormRX | 40 STH, 41 LA, 42 STC, 43 IC, 45 BAL, 46 BCT, 47 BC, 48 LH, 49 CH, 4A AH, 4B SH, 4C MH, 50 ST, 54 N, 55 CL, 56 O, 57 X, 58 L, 59 C, 5A A, 5B S, 5C M, 5D D, 5E AL, 5F SL
FormRS | 86 BXH, 87 BXLE, 88 SRL, 89 SLL, 8A SRA, 8B SLA, 8C SRDL, 8D SLDL, 8E SRDA, 8F SLDA, 90 STM, 98 LM
FormSI | 91 TM, 92 MVI, 94 NI, 95 CLI, 96 OI, 97 XI
FormS | 93 TS
FormSS | D1 MVN, D2 MVC, D3 MVZ, D4 NC, D5 CLC, D6 OC, D7 XC, DC TR, DD TRT
`

// effects are the instructions that have the same effect, but for where their operand is.
const effects = `
load: LR L LH
test: LTR
complement: LCR
positive: LPR
negative: LNR
sum: AR A AH
difference: SR S SH
logical sum: ALR AL
logical difference: SLR SL
comparison: CR C CH
logical comparison: CLR CL
and: NR N
or: OR O
exclusive or: XR X
product: MR M
low product: MH
quotient: DR D
`

// instruction is a general instruction.
type instruction struct {
	op   int
	name string
	form int
}

func formOf(name string) int {
	return map[string]int{
		"FormRR": api.FormRR, "FormRR1": api.FormRR1, "FormRX": api.FormRX, "FormRS": api.FormRS,
		"FormSI": api.FormSI, "FormS": api.FormS, "FormSS": api.FormSS,
	}[name]
}

// readCodes returns the general instructions, in the order of the table.
func readCodes() []instruction {
	var all []instruction
	for line := range strings.Lines(strings.TrimSpace(codes)) {
		form, list, _ := strings.Cut(strings.TrimSpace(line), " | ")
		for _, pair := range strings.Split(list, ", ") {
			code, name, _ := strings.Cut(pair, " ")
			op, _ := strconv.ParseInt(code, 16, 0)
			all = append(all, instruction{int(op), name, formOf(form)})
		}
	}
	return all
}

// known are the general instructions, named the names by operation code, effectOf the effects by name.
var (
	known    = readCodes()
	named    = readNames()
	effectOf = readEffects()
)

func readNames() map[int]string {
	names := map[int]string{}
	for _, in := range readCodes() {
		names[in.op] = in.name
	}
	return names
}

func readEffects() map[string]string {
	all := map[string]string{}
	for line := range strings.Lines(strings.TrimSpace(effects)) {
		effect, list, _ := strings.Cut(strings.TrimSpace(line), ": ")
		for _, name := range strings.Fields(list) {
			all[name] = effect
		}
	}
	return all
}

// isOneOf reports whether the list has the name.
func isOneOf(name, list string) bool {
	return strings.Contains(" "+list+" ", " "+name+" ")
}

// model is a processor's registers and program status word, and main storage: for each address the byte, and the number that stands for its key and fetch protection.
type model struct {
	regs            api.Regs
	psw             api.PSW
	values, numbers []byte
}

func number(v int64) *big.Int { return big.NewInt(v) }

func power(bits int) *big.Int { return new(big.Int).Lsh(number(1), uint(bits)) }

func minus(v *big.Int) *big.Int { return new(big.Int).Neg(v) }

func magnitude(v *big.Int) *big.Int { return new(big.Int).Abs(v) }

func plus(v, w *big.Int) *big.Int { return new(big.Int).Add(v, w) }

func times(v, w *big.Int) *big.Int { return new(big.Int).Mul(v, w) }

// modulo returns v modulo 2^bits, which is not negative.
func modulo(v *big.Int, bits int) *big.Int { return new(big.Int).Mod(v, power(bits)) }

// asSigned returns the signed value of a number from 0 to 2^bits - 1.
func asSigned(v *big.Int, bits int) *big.Int {
	if v.Cmp(power(bits-1)) >= 0 {
		return plus(v, minus(power(bits)))
	}
	return v
}

// fits reports whether v is a signed number of that many bits.
func fits(v *big.Int, bits int) bool {
	return v.Cmp(power(bits-1)) < 0 && v.Cmp(minus(power(bits-1))) >= 0
}

func (m *model) unsigned(n int) *big.Int { return number(int64(m.regs[n])) }

func (m *model) signed(n int) *big.Int { return asSigned(m.unsigned(n), 32) }

func (m *model) put(n int, v *big.Int) { m.regs[n] = uint32(modulo(v, 32).Uint64()) }

// pair returns the pair of the register n as a number from 0 to 2^64 - 1.
func (m *model) pair(n int) *big.Int {
	return plus(times(m.unsigned(n), power(32)), m.unsigned(n+1))
}

func (m *model) putPair(n int, v *big.Int) {
	text := modulo(v, 64).Text(16)
	text = strings.Repeat("0", 16-len(text)) + text
	hi, _ := strconv.ParseUint(text[:8], 16, 32)
	lo, _ := strconv.ParseUint(text[8:], 16, 32)
	m.regs[n], m.regs[n+1] = uint32(hi), uint32(lo)
}

// sign sets the condition code to that of v.
func (m *model) sign(v *big.Int) { m.psw.CC = []int{1, 0, 2}[v.Sign()+1] }

// overflow sets the condition code and returns the code.
func (m *model) overflow() int {
	m.psw.CC = 3
	if m.psw.Prog > 7 {
		return 8
	}
	return 0
}

// settle puts v into the register n and sets the condition code, also for an overflow.
func (m *model) settle(n int, v *big.Int) int {
	m.put(n, v)
	if !fits(v, 32) {
		return m.overflow()
	}
	m.sign(v)
	return 0
}

// zeroOrNot sets the condition code of a bitwise operation.
func (m *model) zeroOrNot(v *big.Int) {
	m.psw.CC = 1
	if v.Sign() == 0 {
		m.psw.CC = 0
	}
}

// address returns the address that the registers and the displacement give.
func (m *model) address(displacement int, numbers ...int) int {
	sum := number(int64(displacement))
	for _, n := range numbers {
		if n > 0 {
			sum = plus(sum, m.unsigned(n))
		}
	}
	return int(modulo(sum, 24).Int64())
}

// access returns the code of an access to n bytes from addr on, byte for byte.
func (m *model) access(addr, n int, storing bool) int {
	code := 0
	for at := addr; at < addr+n; at++ {
		if at < 0 || at >= len(m.values) {
			return 5
		}
		key, locked := int(m.numbers[at]>>1), m.numbers[at]&1 == 1
		if m.psw.Key != 0 && m.psw.Key != key && (storing || locked) {
			code = 4
		}
	}
	return code
}

// fetch returns the number of the n bytes from addr on, and the code.
func (m *model) fetch(addr, n int) (*big.Int, int) {
	if code := m.access(addr, n, false); code != 0 {
		return nil, code
	}
	return new(big.Int).SetBytes(m.values[addr : addr+n]), 0
}

// store stores the n low bytes of v at addr, and returns the code.
func (m *model) store(addr, n int, v *big.Int) int {
	code := m.access(addr, n, true)
	if code == 0 {
		modulo(v, 8*n).FillBytes(m.values[addr : addr+n])
	}
	return code
}

// run executes an instruction and returns its code. Where that is neither 0 nor 8, the model is of no use any more.
func (m *model) run(i api.Ins) int {
	name := named[i.Op]
	switch {
	case effectOf[name] != "":
		return m.calculate(effectOf[name], i)
	case isOneOf(name, "SLA SRA SLL SRL"):
		return m.shift(name, i)
	case isOneOf(name, "SLDA SRDA SLDL SRDL"):
		return m.shiftPair(name, i)
	case i.Form == api.FormSI || i.Form == api.FormS:
		return m.immediate(name, i)
	case i.Form == api.FormSS:
		return m.fields(name, i)
	case name[0] == 'B':
		m.branch(name, i)
		return 0
	}
	return m.other(name, i)
}

// operand returns the operand of an instruction that has an effect, as a signed number, and the code.
func (m *model) operand(i api.Ins) (*big.Int, int) {
	if i.Form == api.FormRR {
		return m.signed(i.R2), 0
	}
	n := 4
	if strings.HasSuffix(named[i.Op], "H") {
		n = 2
	}
	a := m.address(i.D2, i.B2, i.X2)
	if a%n != 0 {
		return nil, 6
	}
	v, code := m.fetch(a, n)
	if code != 0 {
		return nil, code
	}
	return asSigned(v, 8*n), 0
}

func (m *model) calculate(effect string, i api.Ins) int {
	if isOneOf(effect, "product quotient") && i.R1%2 != 0 {
		return 6
	}
	v, code := m.operand(i)
	if code != 0 {
		return code
	}
	n, r := i.R1, m.signed(i.R1)
	switch effect {
	case "load":
		m.put(n, v)
	case "test":
		return m.settle(n, v)
	case "complement":
		return m.settle(n, minus(v))
	case "positive":
		return m.settle(n, magnitude(v))
	case "negative":
		return m.settle(n, minus(magnitude(v)))
	case "sum":
		return m.settle(n, plus(r, v))
	case "difference":
		return m.settle(n, plus(r, minus(v)))
	case "comparison":
		m.sign(plus(r, minus(v)))
	case "low product":
		m.put(n, times(r, v))
	case "product":
		m.putPair(n, times(m.signed(n+1), v))
	case "quotient":
		return m.divide(n, v)
	default:
		m.calculateUnsigned(effect, n, modulo(v, 32))
	}
	return 0
}

func (m *model) calculateUnsigned(effect string, n int, v *big.Int) {
	r := m.unsigned(n)
	switch effect {
	case "logical sum":
		m.carry(n, plus(r, v))
	case "logical difference":
		m.carry(n, plus(r, plus(power(32), minus(v))))
	case "logical comparison":
		m.sign(plus(r, minus(v)))
	case "and":
		m.put(n, new(big.Int).And(r, v))
		m.zeroOrNot(m.unsigned(n))
	case "or":
		m.put(n, new(big.Int).Or(r, v))
		m.zeroOrNot(m.unsigned(n))
	case "exclusive or":
		m.put(n, new(big.Int).Xor(r, v))
		m.zeroOrNot(m.unsigned(n))
	}
}

// carry puts v into the register n and sets the condition code of logical sums: a difference is the sum with the complement, so that it has a carry unless it needs to borrow.
func (m *model) carry(n int, v *big.Int) {
	m.put(n, v)
	m.zeroOrNot(m.unsigned(n))
	if v.Cmp(power(32)) >= 0 {
		m.psw.CC += 2
	}
}

func (m *model) divide(n int, v *big.Int) int {
	if v.Sign() == 0 {
		return 9
	}
	quotient, remainder := new(big.Int).QuoRem(asSigned(m.pair(n), 64), v, new(big.Int))
	if !fits(quotient, 32) {
		return 9
	}
	m.put(n, remainder)
	m.put(n+1, quotient)
	return 0
}

// shifted returns a number of that many bits shifted by n places, and whether it overflows. An arithmetic shift to the left keeps the sign, and what passes the numeric bits is lost.
func shifted(name string, v *big.Int, bits, n int) (*big.Int, bool) {
	switch {
	case name == "SLA" || name == "SLDA":
		exact := times(asSigned(v, bits), power(n))
		r := modulo(exact, bits-1)
		if exact.Sign() < 0 {
			r = plus(r, power(bits-1))
		}
		return r, !fits(exact, bits)
	case name == "SRA" || name == "SRDA":
		return modulo(new(big.Int).Div(asSigned(v, bits), power(n)), bits), false
	case name == "SLL" || name == "SLDL":
		return modulo(times(v, power(n)), bits), false
	}
	return new(big.Int).Div(v, power(n)), false
}

// shiftCode sets the condition code of a shift with the result v, if it sets one.
func (m *model) shiftCode(name string, v *big.Int, over bool) int {
	if over {
		return m.overflow()
	}
	if strings.HasSuffix(name, "A") {
		m.sign(v)
	}
	return 0
}

func (m *model) shift(name string, i api.Ins) int {
	v, over := shifted(name, m.unsigned(i.R1), 32, m.address(i.D2, i.B2)%64)
	m.put(i.R1, v)
	return m.shiftCode(name, m.signed(i.R1), over)
}

func (m *model) shiftPair(name string, i api.Ins) int {
	if i.R1%2 != 0 {
		return 6
	}
	v, over := shifted(name, m.pair(i.R1), 64, m.address(i.D2, i.B2)%64)
	m.putPair(i.R1, v)
	return m.shiftCode(name, asSigned(m.pair(i.R1), 64), over)
}

// immediate executes the instructions of one byte of storage.
func (m *model) immediate(name string, i api.Ins) int {
	a1 := m.address(i.D1, i.B1)
	if name == "MVI" {
		return m.store(a1, 1, number(int64(i.I2)))
	}
	v, code := m.fetch(a1, 1)
	if code != 0 {
		return code
	}
	x, mask := int(v.Int64()), i.I2
	switch name {
	case "CLI":
		m.sign(number(int64(x - mask)))
		return 0
	case "TM":
		m.psw.CC = []int{1, 0, 3}[indexOf(x&mask, 0, mask)]
		return 0
	case "TS":
		m.psw.CC = x / 128
		return m.store(a1, 1, number(255))
	case "NI":
		x &= mask
	case "OI":
		x |= mask
	case "XI":
		x ^= mask
	}
	m.zeroOrNot(number(int64(x)))
	return m.store(a1, 1, number(int64(x)))
}

// indexOf returns the place of the first of the numbers that is v, from 1 on, or 0.
func indexOf(v int, numbers ...int) int {
	for k, n := range numbers {
		if v == n {
			return k + 1
		}
	}
	return 0
}

// fields executes the instructions of several bytes of storage.
func (m *model) fields(name string, i api.Ins) int {
	a1, a, n := m.address(i.D1, i.B1), m.address(i.D2, i.B2), i.L1+1
	if name == "TRT" {
		return m.find(a1, a, n)
	}
	if code := m.access(a1, n, false); code != 0 {
		return code
	}
	if name == "TR" {
		return m.translate(a1, a, n)
	}
	if code := m.access(a, n, false); code != 0 {
		return code
	}
	if name == "CLC" {
		m.psw.CC = []int{1, 0, 2}[strings.Compare(string(m.values[a1:a1+n]), string(m.values[a:a+n]))+1]
		return 0
	}
	if code := m.access(a1, n, true); code != 0 {
		return code
	}
	any := false
	for k := range n {
		m.values[a1+k] = merged(name, m.values[a1+k], m.values[a+k])
		any = any || m.values[a1+k] != 0
	}
	if isOneOf(name, "NC OC XC") {
		m.psw.CC = map[bool]int{true: 1}[any]
	}
	return 0
}

// merged returns what becomes of the byte x when y comes to it.
func merged(name string, x, y byte) byte {
	switch name {
	case "MVN":
		return x/16*16 + y%16
	case "MVZ":
		return y/16*16 + x%16
	case "NC":
		return x & y
	case "OC":
		return x | y
	case "XC":
		return x ^ y
	}
	return y
}

// translate stores each byte before the next one is translated; the key must admit all of them.
func (m *model) translate(a1, a, n int) int {
	storable := m.access(a1, n, true)
	for k := range n {
		v, code := m.fetch(a+int(m.values[a1+k]), 1)
		if code != 0 {
			return code
		}
		m.values[a1+k] = byte(v.Int64())
	}
	return storable
}

func (m *model) find(a1, a, n int) int {
	for k := range n {
		x, code := m.fetch(a1+k, 1)
		if code != 0 {
			return code
		}
		f, code := m.fetch(a+int(x.Int64()), 1)
		if code != 0 {
			return code
		}
		if f.Sign() != 0 {
			m.regs[1] = m.regs[1]>>24<<24 + uint32(a1+k)
			m.regs[2] = m.regs[2]>>8<<8 + uint32(f.Int64())
			m.psw.CC = map[bool]int{false: 1, true: 2}[k+1 == n]
			return 0
		}
	}
	m.psw.CC = 0
	return 0
}

// branch executes the branches.
func (m *model) branch(name string, i api.Ins) {
	old := *m
	to, may := old.address(i.D2, i.B2, i.X2), true
	if i.Form == api.FormRR {
		to, may = old.address(0, i.R2), i.R2 != 0
	}
	switch strings.TrimSuffix(name, "R") {
	case "BC":
		may = may && i.R1>>(3-old.psw.CC)%2 == 1
	case "BAL":
		m.regs[i.R1] = uint32(old.psw.ILC*(1<<30) + old.psw.CC*(1<<28) + old.psw.Prog*(1<<24) + old.psw.Addr)
	case "BCT":
		m.put(i.R1, plus(old.signed(i.R1), number(-1)))
		may = may && old.regs[i.R1] != 1
	case "BXH", "BXLE":
		comparand := i.R2
		if comparand%2 == 0 {
			comparand++
		}
		m.put(i.R1, plus(old.signed(i.R1), old.signed(i.R2)))
		may = (m.signed(i.R1).Cmp(old.signed(comparand)) > 0) == (name == "BXH")
	}
	if may {
		m.psw.Addr = to
	}
}

// other executes what is left.
func (m *model) other(name string, i api.Ins) int {
	a, v := m.address(i.D2, i.B2, i.X2), m.unsigned(i.R1)
	switch name {
	case "LA":
		m.regs[i.R1] = uint32(a)
	case "SPM":
		m.psw.CC, m.psw.Prog = int(m.regs[i.R1]>>28)%4, int(m.regs[i.R1]>>24)%16
	case "ST", "STH", "STC":
		n := map[string]int{"ST": 4, "STH": 2, "STC": 1}[name]
		if a%n != 0 {
			return 6
		}
		return m.store(a, n, v)
	case "IC":
		x, code := m.fetch(a, 1)
		if code != 0 {
			return code
		}
		m.regs[i.R1] = m.regs[i.R1]>>8<<8 + uint32(x.Int64())
	case "LM", "STM":
		return m.multiple(name, a, i)
	}
	return 0
}

// multiple executes LM and STM: all registers are one number.
func (m *model) multiple(name string, a int, i api.Ins) int {
	if a%4 != 0 {
		return 6
	}
	n := 1
	all := m.unsigned(i.R1)
	for r := i.R1; r != i.R2; n++ {
		r = (r + 1) % 16
		all = plus(times(all, power(32)), m.unsigned(r))
	}
	if name == "STM" {
		return m.store(a, 4*n, all)
	}
	all, code := m.fetch(a, 4*n)
	if code != 0 {
		return code
	}
	for r := i.R2; n > 0; n-- {
		m.put(r, all)
		all = new(big.Int).Rsh(all, 32)
		r = (r + 15) % 16
	}
	return 0
}
