package decops_test

import (
	"strings"
	"testing"

	"jobshop/api"
)

// steps has, for each instruction, the steps that may result in a code, in the order of the chapter's table.
const steps = `
CVB: divisible, fetch second, valid second, fits
CVD: divisible, store second
PACK: fetch second, store first
UNPK: fetch second, store first
MVO: fetch first, fetch second, store first
ZAP: fetch second, valid second, store first, over
AP: fetch first, fetch second, valid first, valid second, store first, over
SP: fetch first, fetch second, valid first, valid second, store first, over
CP: fetch first, fetch second, valid first, valid second
MP: lengths, fetch first, fetch second, valid first, valid second, store first
DP: lengths, fetch first, fetch second, valid first, valid second, quotient, store first
SRP: fetch first, valid first, digit, store first, over
ED: fetch first, fetch second, valid second, store first
EDMK: fetch first, fetch second, valid second, store first
`

// stepsOf returns the steps of an instruction.
func stepsOf(name string) []string {
	for line := range strings.Lines(steps) {
		if in, list, ok := strings.Cut(strings.TrimSpace(line), ": "); ok && in == name {
			return strings.Split(list, ", ")
		}
	}
	panic(name)
}

// The blocks in which an operand may be, by what the key may do there.
const (
	own    = iota // fetch and store
	locked        // fetch only
	hidden        // neither
	beyond        // not in storage
)

// trial is what is wrong with an instruction.
type trial struct {
	first, second       int  // the blocks of the operands
	badFirst, badSecond bool // digits or signs that are not valid
	wrong               bool // an address that is not divisible, or lengths that are not allowed
	cannot              bool // a number that does not fit a register, a divisor 0, or a rounding digit above 9
	over                bool // a result that does not fit
	mask                int
}

// fails returns the code in which a step results, or 0.
func (x trial) fails(step string) int {
	verb, operand, _ := strings.Cut(step, " ")
	place, bad := x.first, x.badFirst
	if operand == "second" {
		place, bad = x.second, x.badSecond
	}
	switch verb {
	case "divisible", "lengths":
		return codeIf(x.wrong, 6)
	case "fetch":
		return []int{own: 0, locked: 0, hidden: 4, beyond: 5}[place]
	case "store":
		return []int{own: 0, locked: 4, hidden: 4, beyond: 5}[place]
	case "valid":
		return codeIf(bad, 7)
	case "digit":
		return codeIf(x.cannot, 7)
	case "fits":
		return codeIf(x.cannot, 9)
	case "quotient":
		return codeIf(x.cannot, 11)
	case "over":
		return codeIf(x.over && x.mask == 4, 10)
	}
	panic(step)
}

func codeIf(condition bool, code int) int {
	if condition {
		return code
	}
	return 0
}

// failures returns the steps of an instruction that fail.
func (x trial) failures(name string) []string {
	var all []string
	for _, step := range stepsOf(name) {
		if x.fails(step) != 0 {
			all = append(all, step)
		}
	}
	return all
}

// texts returns the operands of an instruction with what is wrong with them, apart from where they are.
func (x trial) texts(name string) (first, second string) {
	first, second = "00 00 12 3C", "04 5D"
	switch name {
	case "CVB", "CVD":
		second = "00 00 00 00 00 01 04 5D"
		if x.cannot {
			second = "00 00 02 14 74 83 64 8C"
		}
	case "ED", "EDMK":
		first, second = "40 20 20 20", "12 3C"
		if x.badSecond {
			second = "12 AC"
		}
		return first, second
	case "MP":
		second = "5D"
	case "DP":
		if x.cannot {
			second = "00 0D"
		}
	case "ZAP":
		if x.over {
			second = "12 34 56 78 9D"
		}
	case "AP", "SP", "SRP":
		if x.over {
			first = map[string]string{"AP": "99 99 96 5D", "SP": "99 99 96 5C", "SRP": "00 12 34 5D"}[name]
		}
	}
	if x.badFirst {
		first = "00 0C" + first[5:]
	}
	if x.badSecond {
		second = second[:len(second)-1] + "9"
	}
	return first, second
}

// place returns the address of an operand in the block, after it stored the text there, if that is in storage.
func (c *setting) place(block, offset int, text string) int {
	addr := 2048*block + offset
	if block != beyond {
		c.set(addr, text)
	}
	return addr
}

// build stores the operands of a trial and returns the instruction.
func (c *setting) build(name string, x trial) api.Ins {
	first, second := x.texts(name)
	return c.compose(name, x, c.place(x.first, 512, first), c.place(x.second, 1024, second))
}

// prepare stores operands that an instruction can have at a1 and a, and returns the instruction.
func (c *setting) prepare(name string, a1, a int) api.Ins {
	first, second := trial{}.texts(name)
	c.set(a1, first)
	c.set(a, second)
	return c.compose(name, trial{}, a1, a)
}

// compose returns the instruction of a trial whose operands are at a1 and a.
func (c *setting) compose(name string, x trial, a1, a int) api.Ins {
	first, second := x.texts(name)
	n1, n2 := len(bytesOf(first)), len(bytesOf(second))
	switch name {
	case "CVB", "CVD":
		if x.wrong {
			a += 4
		}
		return c.conversion(name, a)
	case "SRP":
		digit := 9
		if x.cannot {
			digit = 10
		}
		return c.shift(n1, a1, 3, digit)
	case "MP", "DP":
		if x.wrong {
			n2 = n1
		}
	}
	return c.fields(name, n1, a1, n2, a)
}

// trials calls f with all that may be wrong.
func trials(f func(x trial)) {
	for bits := range 1 << 10 {
		bit := func(n int) bool { return bits>>n&1 == 1 }
		f(trial{
			first: bits & 3, second: bits >> 2 & 3, badFirst: bit(4), badSecond: bit(5),
			wrong: bit(6), cannot: bit(7), over: bit(8), mask: bits >> 9 * 4,
		})
	}
}

// TestOrder has each step that may result in a code fail by itself, as far as that is possible, and with each of the later ones (Terms: the order of codes).
func TestOrder(t *testing.T) {
	c := newSetting(t, 10, 8, 9)
	c.psw.Key = 5
	for _, in := range known {
		seen := map[string]bool{}
		trials(func(x trial) {
			c.psw.Prog = x.mask
			want, failed := 0, x.failures(in.name)
			if len(failed) > 0 {
				want = x.fails(failed[0])
				for _, later := range failed {
					seen[failed[0]+", "+later] = true
				}
			}
			if len(failed) < 2 {
				seen[strings.Join(failed, "")] = true
			}
			r := c.exec(c.build(in.name, x))
			check(t, r.code == want, in.name, x, "code", r.code, "want", want)
		})
		checkSeen(t, in.name, seen)
	}
}

// checkSeen checks that each step failed together with each later one, and alone, unless it fetches what is stored at later.
func checkSeen(t *testing.T, name string, seen map[string]bool) {
	t.Helper()
	list := stepsOf(name)
	check(t, seen[""], "no step failed:", name)
	for k, step := range list {
		for _, later := range list[k:] {
			check(t, seen[step+", "+later], "steps that did not fail together:", name, step, later)
		}
		alone := step != "fetch first" || name == "CP"
		check(t, seen[step] == alone, "whether the step failed alone:", name, step)
	}
}

// TestOrderByHand has instructions to which two codes apply.
func TestOrderByHand(t *testing.T) {
	c := newSetting(t, 10, 9, 8)
	c.psw.Key, c.psw.Prog = 5, 4
	valid, invalid, zero, over := 100, 200, 300, 400
	c.set(valid, "00 00 00 00 00 00 12 3C")
	c.set(invalid, "00 00 00 00 00 00 12 34")
	c.set(zero, "00 00 00 00 00 00 00 0C")
	c.set(over, "99 99 99 99 99 99 99 9C")
	c.set(4096, "00 00 00 00 00 00 12 3C")
	c.set(4196, "00 00 00 00 00 00 12 34")
	c.set(4296, "99 99 99 99 99 99 99 9C")
	const none, secret, readable = 1 << 20, 2100, 4096
	for _, r := range []struct {
		about string
		i     func() api.Ins
		code  int
	}{
		{"an odd address beyond storage", func() api.Ins { return c.conversion("CVB", none+1) }, 6},
		{"an odd address in a protected block", func() api.Ins { return c.conversion("CVD", secret+1) }, 6},
		{"an address divisible by 4 of what is not valid", func() api.Ins { return c.conversion("CVB", invalid+4) }, 6},
		{"lengths that are equal and no operands", func() api.Ins { return c.fields("MP", 8, none, 8, none) }, 6},
		{"a length above 8 and a protected operand", func() api.Ins { return c.fields("DP", 16, secret, 9, secret) }, 6},
		{"lengths that are equal and a divisor 0", func() api.Ins { return c.fields("DP", 8, valid, 8, zero) }, 6},
		{"no first operand and a protected second one", func() api.Ins { return c.fields("AP", 8, none, 8, secret) }, 5},
		{"a protected first operand and no second one", func() api.Ins { return c.fields("AP", 8, secret, 8, none) }, 4},
		{"a protected second operand and no first one", func() api.Ins { return c.fields("PACK", 8, none, 8, secret) }, 4},
		{"no second operand and a protected first one", func() api.Ins { return c.fields("ZAP", 8, secret, 8, none) }, 5},
		{"a first operand that is not valid and no second one", func() api.Ins { return c.fields("CP", 8, invalid, 8, none) }, 5},
		{"what is not valid and a first operand that may not be stored at", func() api.Ins { return c.fields("AP", 8, readable, 8, invalid) }, 7},
		{"what is not valid and no first operand", func() api.Ins { return c.fields("ZAP", 8, none, 8, invalid) }, 7},
		{"a divisor 0 and a first operand that may not be stored at", func() api.Ins { return c.fields("DP", 16, readable-8, 8, zero) }, 4},
		{"a divisor 0 and a first operand that may be fetched only", func() api.Ins { return c.fields("DP", 8, readable, 7, zero+1) }, 11},
		{"what is not valid and a divisor 0", func() api.Ins { return c.fields("DP", 8, invalid, 2, zero+6) }, 7},
		{"an overflow and a first operand that may not be stored at", func() api.Ins { return c.fields("AP", 8, 4296, 8, over) }, 4},
		{"an overflow and no first operand", func() api.Ins { return c.fields("ZAP", 1, none, 8, over) }, 5},
		{"a rounding digit above 9 and a first operand that may not be stored at", func() api.Ins { return c.shift(8, readable, 1, 10) }, 7},
		{"a rounding digit above 9 and a first operand that is not valid", func() api.Ins { return c.shift(8, 4196, 1, 15) }, 7},
		{"a rounding digit above 9 and a protected first operand", func() api.Ins { return c.shift(8, secret, 1, 10) }, 4},
		{"a rounding digit above 9 and no first operand", func() api.Ins { return c.shift(8, none, 1, 10) }, 5},
	} {
		got := c.exec(r.i()).code
		check(t, got == r.code, r.about, got)
	}
}
