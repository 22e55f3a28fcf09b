package cpu_test

import (
	"encoding/hex"
	"fmt"
	"slices"
	"strconv"
	"strings"

	"jobshop/api"
	"jobshop/decops"
	"jobshop/general"
	"jobshop/isa"
	"jobshop/store"
)

// The expected results are computed by a model that works on texts of hexadecimal and binary digits: program status words and instructions are texts, storage is accessed byte for byte, masks are looked at digit by digit. Only the general and decimal instructions are those of the layers 9 and 10, as the chapter says.

// own are the instructions that the processor executes by itself, by their operation codes.
const own = "08 SSK, 09 ISK, 0A SVC, 44 EX, 80 SSM, 82 LPSW, 9C SIO, 9D TIO, 9E HIO, 9F TCH"

// others are the operation codes of the general and the decimal instructions.
const (
	generals = "04 05 06 07 10 11 12 13 14 15 16 17 18 19 1A 1B 1C 1D 1E 1F " +
		"40 41 42 43 45 46 47 48 49 4A 4B 4C 50 54 55 56 57 58 59 5A 5B 5C 5D 5E 5F " +
		"86 87 88 89 8A 8B 8C 8D 8E 8F 90 91 92 93 94 95 96 97 98 D1 D2 D3 D4 D5 D6 D7 DC DD"
	decimals = "4E 4F DE DF F0 F1 F2 F3 F8 F9 FA FB FC FD"
)

// privileged are the names of the privileged instructions.
const privileged = "SSK ISK SSM LPSW SIO TIO HIO TCH"

// named are the names of the instructions that the processor executes by itself, by their operation codes in hexadecimal.
var named = readNames()

func readNames() map[string]string {
	names := map[string]string{}
	for _, pair := range strings.Split(own, ", ") {
		code, name, _ := strings.Cut(pair, " ")
		names[code] = name
	}
	return names
}

// isOneOf reports whether the list has the name.
func isOneOf(name, list string) bool {
	return strings.Contains(" "+list+" ", " "+name+" ")
}

// value returns the number with the hexadecimal digits.
func value(digits string) int {
	v, err := strconv.ParseUint(digits, 16, 32)
	if err != nil {
		panic(err)
	}
	return int(v)
}

// raised is a pending interruption.
type raised struct{ class, code int }

// model is a processor and its storage.
type model struct {
	regs     api.Regs
	psw      api.PSW
	twin     *store.Store
	pending  []raised
	question api.Event
	stopped  bool
	count    int
}

// lines are the classes of interruptions, with the locations of their old and new program status words and their rank among pending ones.
var lines = map[int]struct{ old, new, rank int }{
	api.ClassExternal: {24, 88, 2},
	api.ClassSvc:      {32, 96, 0},
	api.ClassProgram:  {40, 104, 0},
	api.ClassMachine:  {48, 112, 1},
	api.ClassIO:       {56, 120, 3},
}

// textOf returns the hexadecimal digits of a program status word.
func textOf(p api.PSW) string {
	flags := 0
	for _, f := range []struct {
		set bool
		bit int
	}{{p.Machine, 4}, {p.Wait, 2}, {p.Problem, 1}} {
		if f.set {
			flags += f.bit
		}
	}
	return fmt.Sprintf("%02X%X%X%04X%X%X%06X", p.Mask, p.Key, flags, p.Code, 4*p.ILC+p.CC, p.Prog, p.Addr)
}

// statusOf returns the program status word with the digits, and whether there is one.
func statusOf(text string) (api.PSW, bool) {
	flags := fmt.Sprintf("%04b", value(text[3:4]))
	if flags[0] == '1' {
		return api.PSW{}, false
	}
	return api.PSW{
		Mask: value(text[0:2]), Key: value(text[2:3]), Machine: flags[1] == '1', Wait: flags[2] == '1', Problem: flags[3] == '1',
		Code: value(text[4:8]), ILC: value(text[8:9]) / 4, CC: value(text[8:9]) % 4, Prog: value(text[9:10]), Addr: value(text[10:16]),
	}, true
}

// digitsAt returns the digits of n bytes of storage, whatever their keys are.
func (m *model) digitsAt(addr, n int) string {
	return strings.ToUpper(hex.EncodeToString(m.twin.Bytes(addr, n)))
}

// fetch returns the digits of n bytes from addr on, and the code.
func (m *model) fetch(addr, n int) (string, int) {
	code := 0
	for at := addr; at < addr+n; at++ {
		number, ok := m.twin.KeyOf(at)
		if !ok {
			return "", 5
		}
		if m.psw.Key != 0 && m.psw.Key != number/2 && number%2 == 1 {
			code = 4
		}
	}
	if code != 0 {
		return "", code
	}
	return m.digitsAt(addr, n), 0
}

// sizeOf returns the number of bytes of an instruction by its first digit.
func sizeOf(text string) int {
	switch {
	case text[0] < '4':
		return 2
	case text[0] < 'C':
		return 4
	}
	return 6
}

// instructionAt returns the digits of the instruction at addr, and the code.
func (m *model) instructionAt(addr int) (string, int) {
	if strings.Contains("13579BDF", fmt.Sprintf("%X", addr%16)) {
		return "", 6
	}
	text, code := m.fetch(addr, 2)
	if code != 0 {
		return "", code
	}
	return m.fetch(addr, sizeOf(text))
}

// admits reports whether a pending interruption is admitted.
func (m *model) admits(r raised) bool {
	mask := fmt.Sprintf("%08b", m.psw.Mask)
	switch r.class {
	case api.ClassExternal:
		return mask[7] == '1'
	case api.ClassMachine:
		return m.psw.Machine
	}
	return mask[r.code/256] == '1'
}

// chosen returns the place of the pending interruption that is taken next, or -1.
func (m *model) chosen() int {
	best, least := -1, 1<<20
	for k, r := range m.pending {
		if score := 1000*lines[r.class].rank + k; m.admits(r) && score < least {
			best, least = k, score
		}
	}
	return best
}

// step performs a step.
func (m *model) step() api.Event {
	if m.stopped {
		return api.Event{Kind: api.EvWait}
	}
	if m.question != (api.Event{}) {
		return m.question
	}
	if k := m.chosen(); k >= 0 {
		r := m.pending[k]
		m.pending = slices.Concat(m.pending[:k], m.pending[k+1:])
		return m.interrupt(r)
	}
	if m.psw.Wait {
		return api.Event{Kind: api.EvWait}
	}
	return m.instruction()
}

// interrupt takes an interruption.
func (m *model) interrupt(r raised) api.Event {
	old := m.psw
	old.Code = r.code
	m.twin.Put(lines[r.class].old, bytesOf(textOf(old)), 0)
	p, ok := statusOf(m.digitsAt(lines[r.class].new, 8))
	if ok {
		m.psw = p
	} else {
		m.stopped = true
	}
	return api.Event{Kind: api.EvIntr, Class: r.class, Code: r.code}
}

// instruction executes the instruction at the instruction address.
func (m *model) instruction() api.Event {
	text, code := m.instructionAt(m.psw.Addr)
	if code != 0 {
		m.psw.ILC = 0
		return m.interrupt(raised{api.ClassProgram, code})
	}
	m.count++
	m.psw.ILC = len(text) / 4
	m.psw.Addr += len(text) / 2
	r := m.perform(text)
	if r.class != 0 {
		return m.interrupt(r)
	}
	return m.question
}

// ended returns the interruption of an instruction with the code.
func ended(code int) raised {
	if code == 0 {
		return raised{}
	}
	return raised{api.ClassProgram, code}
}

// perform executes the instruction with the digits and returns the interruption that it brings about.
func (m *model) perform(text string) raised {
	code := text[:2]
	name := named[code]
	switch {
	case isOneOf(code, generals):
		return m.elsewhere(text, general.Exec)
	case isOneOf(code, decimals):
		return m.elsewhere(text, decops.Exec)
	case name == "":
		return ended(1)
	case name == "SVC":
		return raised{api.ClassSvc, value(text[2:4])}
	case name == "EX":
		return m.target(text)
	case m.psw.Problem:
		return ended(2)
	case name == "SSK" || name == "ISK":
		return ended(m.key(name, value(text[2:3]), value(text[3:4])))
	}
	return ended(m.atAddress(name, m.address(text[4:8], 0)))
}

// elsewhere executes an instruction of a lower layer.
func (m *model) elsewhere(text string, exec func(api.Ins, api.Regs, api.PSW, *store.Store) (api.Regs, api.PSW, int)) raised {
	i, ok := isa.Decode(bytesOf(text))
	if !ok {
		panic(text)
	}
	code := 0
	m.regs, m.psw, code = exec(i, m.regs, m.psw, m.twin)
	return ended(code)
}

// address returns the address that the digits of a base and a displacement give, and the number of an index register.
func (m *model) address(text string, index int) int {
	sum := value(text[1:])
	for _, n := range []int{value(text[:1]), index} {
		if n != 0 {
			sum += int(m.regs[n])
		}
	}
	return sum % 0x1000000
}

// target executes EX.
func (m *model) target(text string) raised {
	found, code := m.instructionAt(m.address(text[4:8], value(text[3:4])))
	if code != 0 {
		return ended(code)
	}
	if found[:2] == "44" {
		return ended(3)
	}
	if r1 := value(text[2:3]); r1 != 0 {
		second := value(found[2:4]) | int(m.regs[r1]%256)
		found = found[:2] + fmt.Sprintf("%02X", second) + found[4:]
	}
	return m.perform(found)
}

// key executes SSK and ISK, and returns the code.
func (m *model) key(name string, r1, r2 int) int {
	text := fmt.Sprintf("%08X", m.regs[r2])
	x := value(text[2:])
	number, ok := m.twin.KeyOf(x)
	switch {
	case text[7] != '0':
		return 6
	case !ok:
		return 5
	case name == "SSK":
		low := fmt.Sprintf("%08b", m.regs[r1]%256)
		number, _ := strconv.ParseInt(low[:5], 2, 0)
		m.twin.SetKey(x, int(number))
		return 0
	}
	low, _ := strconv.ParseInt(fmt.Sprintf("%05b000", number), 2, 0)
	m.regs[r1] = m.regs[r1]/256*256 + uint32(low)
	return 0
}

// atAddress executes the instructions that have an address alone, and returns the code.
func (m *model) atAddress(name string, a1 int) int {
	switch name {
	case "SSM":
		text, code := m.fetch(a1, 1)
		if code == 0 {
			m.psw.Mask = value(text)
		}
		return code
	case "LPSW":
		if !strings.Contains("08", fmt.Sprintf("%X", a1%16)) {
			return 6
		}
		text, code := m.fetch(a1, 8)
		if code != 0 {
			return code
		}
		p, ok := statusOf(text)
		if !ok {
			return 6
		}
		m.psw = p
		return 0
	}
	kind := map[string]int{"SIO": api.EvStart, "TIO": api.EvTest, "HIO": api.EvHalt, "TCH": api.EvChan}[name]
	m.question = api.Event{Kind: kind, Unit: a1 % 65536}
	return 0
}

// bytesOf returns the bytes whose hexadecimal digits the text has.
func bytesOf(text string) []byte {
	b, err := hex.DecodeString(strings.ReplaceAll(text, " ", ""))
	if err != nil {
		panic(err)
	}
	return b
}
