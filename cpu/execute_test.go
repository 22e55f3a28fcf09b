package cpu_test

import (
	"fmt"
	"testing"

	"jobshop/api"
)

// aim is where the targets of EX stand, most of the time.
const aim = 0x300

// newTarget returns a setting with an EX of the register r1 whose target is at aim, and the digits of that EX.
func newTarget(t *testing.T, r1 int, target string) (*setting, string) {
	t.Helper()
	x := newSetting(t, 0, 0)
	x.put(aim, target)
	return x, fmt.Sprintf("44%X00300", r1)
}

// TestExecuteLengths has targets of every length: the address is that after the EX, the ILC is that of the EX, only the EX counts.
func TestExecuteLengths(t *testing.T) {
	for _, target := range []string{"1A12", "41100001", "50100180", "D20101000180", "4E100180", "F12101000180", "95010180", "9C000190", "0879"} {
		for r1 := range 16 {
			x, ex := newTarget(t, r1, target)
			x.give(9, 0x410)
			x.give(7, 0xAB000800)
			if r1 > 0 {
				x.give(r1, x.regs[r1]&^0xFF)
			}
			e, p := x.run(ex)
			check(t, p.Addr == at+4 && p.ILC == 2 && x.c.Count() == 1, "EX of", target, e, p)
		}
	}
}

// TestExecuteSecondByte has the second byte with all sorts of low bytes of the register, and with R1 0, where register 0 does not matter: the instruction in storage remains.
func TestExecuteSecondByte(t *testing.T) {
	for _, second := range []int{0, 1, 0x0F, 0x20, 0x5A, 0x80, 0xF0, 0xFF} {
		for _, v := range []uint32{0, 1, 0x10, 0x55, 0xFFFFFF00, 0x12345678, 0xFF} {
			for _, r1 := range []int{0, 1, 15} {
				target := fmt.Sprintf("92%02X0180", second)
				x, ex := newTarget(t, r1, target)
				x.give(r1, v)
				x.succeeds(ex)
				want := second
				if r1 != 0 {
					want |= int(v % 256)
				}
				check(t, x.digitsAt(0x180, 1) == fmt.Sprintf("%02X", want), "EX of", target, v, r1)
				check(t, x.digitsAt(aim, 4) == target, "the target changed")
			}
		}
	}
}

// TestExecuteAddress has the address of the target given by base, index and displacement; register 0 counts as 0, and the sum is modulo 2^24.
func TestExecuteAddress(t *testing.T) {
	for _, q := range []struct {
		fields    string
		x2, b2, d int
	}{
		{"0300", 0, 0, aim}, {"7300", 0, 0, aim}, {"7100", 0, 0x200, aim}, {"7FFE", 0, 0xFFF302, aim}, {"7300", 0, 0xFF000000, aim}, {"7001", 0, 0x2FF, aim},
		{"8300", 0, 0, aim}, {"7100", 0x100, 0x100, aim}, {"7100", 0xFFFFFF00, 0x300, aim}, {"7000", 0xFF000200, 0xFF000100, aim}, {"7000", 0x7FFFFFFF, 0x80000301, aim}, {"7FFF", 1, 0xFFF300, aim},
	} {
		x, _ := newTarget(t, 0, "41300777")
		x.give(0, 0x1000)
		x.give(3, 0)
		x.give(7, uint32(q.b2))
		x.give(8, uint32(q.x2))
		index := "8"
		if q.x2 == 0 {
			index = "0"
		}
		x.succeeds("440" + index + q.fields)
		check(t, x.c.Regs()[3] == 0x777, "EX with", q.fields, q.x2, q.b2)
	}
}

// TestExecuteFetch has targets at all edges: odd, beyond storage, protected, with two bytes that can be fetched and others that cannot. The codes come in their order.
func TestExecuteFetch(t *testing.T) {
	for _, q := range []struct {
		text string
		addr int
		code int
	}{
		{"", 0x301, 6}, {"", 1<<24 - 1, 6}, {"", 4095, 6}, {"", 6143, 6}, {"", 6145, 6},
		{"", 6144, 5}, {"", 1<<24 - 2, 5}, {"", 65536, 5}, {"", 2048, 4}, {"", 4094, 4},
		{"41100001", 6142, 5}, {"D50001000180", 6142, 5}, {"D50001000180", 6140, 5}, {"41100001", 6140, 0}, {"D50001000180", 6138, 0}, {"1811", 6142, 0}, {"0000", 6142, 1}, {"FF00", 6142, 5},
		{"41100001", 2046, 4}, {"D50001000180", 2046, 4}, {"D50001000180", 2044, 4}, {"41100001", 2044, 0}, {"D50001000180", 2042, 0}, {"1811", 2046, 0}, {"BB00", 2046, 4}, {"C000", 2044, 4},
		{"44000200", 6142, 5}, {"44000200", 2046, 4}, {"44000200", 6140, 3}, {"44000200", 2044, 3}, {"44000200", 4096, 3}, {"1811", 4096, 0},
	} {
		for r1 := range 2 {
			x := newSetting(t, 0, 7, 10)
			x.inKey(5)
			if n := len(bytesOf(q.text)); n > 0 {
				x.put(q.addr, q.text[:2*min(n, size-q.addr)])
			}
			x.give(1, 0xFFFFFF00)
			x.give(9, uint32(q.addr))
			ex := fmt.Sprintf("44%X09000", r1)
			if q.code != 0 {
				x.fails(ex, q.code)
				continue
			}
			x.succeeds(ex)
		}
	}
}

// TestExecuteFetchKey has a target in a block with each key, with and without fetch protection, by each key.
func TestExecuteFetchKey(t *testing.T) {
	x := newSetting(t, 0, 0)
	x.put(2048+64, "1811")
	for number := range 32 {
		x.lock(1, number)
		for key := range 16 {
			x.inKey(key)
			x.give(9, 2048+64)
			if key == 0 || key == number/2 || number%2 == 0 {
				x.succeeds("44009000")
			} else {
				x.fails("44009000", 4)
			}
		}
	}
}

// TestExecuteRefused has targets that are refused: the old program status word is that after the EX.
func TestExecuteRefused(t *testing.T) {
	x := newSetting(t, 0)
	x.give(2, 0)
	for _, q := range []struct {
		target string
		code   int
	}{
		{"0000", 1}, {"00FF", 1}, {"A0000000", 1}, {"FF0000000000", 1}, {"44000200", 3}, {"440F0000", 3}, {"44FFFFFF", 3}, {"44000300", 3},
		{"1C12", 6}, {"1D22", 9}, {"58100301", 6}, {"82000304", 6}, {"82000301", 6}, {"80000FFF", 5}, {"0890", 6}, {"D200010008FF", 5}, {"FA0001000300", 7},
	} {
		x.put(aim, q.target)
		for _, r1 := range []int{0, 2} {
			x.fails(fmt.Sprintf("44%X00300", r1), q.code)
		}
	}
}

// TestExecuteItself has an EX of its own, also where the register would make something else of it.
func TestExecuteItself(t *testing.T) {
	x := newSetting(t, 0)
	x.give(1, 0xFF)
	for _, text := range []string{"44000200", "44100200", "44F00200"} {
		x.fails(text, 3)
	}
}

// TestExecuteOtherSecondBytes has targets whose second byte does not matter, and one where it gives a mask and a register.
func TestExecuteOtherSecondBytes(t *testing.T) {
	x := newSetting(t, 0, 0)
	x.give(1, 0xFF)
	x.put(0x180, "A1")
	for _, q := range []struct {
		target string
		want   api.PSW
	}{
		{"80000180", api.PSW{Mask: 0xA1, Code: 0x1234, ILC: 2, CC: 1, Prog: 6, Addr: at + 4}},
		{"93000180", api.PSW{Code: 0x1234, ILC: 2, CC: 1, Prog: 6, Addr: at + 4}},
		{"0700", api.PSW{Code: 0x1234, ILC: 2, CC: 1, Prog: 6, Addr: 0x0F1E2D3B * 16 % (1 << 24)}},
	} {
		x.inKey(0)
		x.put(aim, q.target)
		p := x.succeeds("44100300")
		check(t, p == q.want, "EX of", q.target, p)
	}
}

// TestExecutePrivileged has targets that are privileged: in the problem state CodePrivileged, after what EX itself results in; in the supervisor state they are executed.
func TestExecutePrivileged(t *testing.T) {
	x := newSetting(t, 0, 7)
	x.give(3, 0x800)
	for _, target := range []string{"0893", "0993", "80000180", "82000180", "9C000180", "9D000180", "9E000180", "9F000180", "82000181", "0891"} {
		x.put(aim, target)
		x.load(api.PSW{Problem: true, Code: 0x1234, Addr: at})
		x.fails("44000300", 2)
		x.fails("44000301", 6)
		x.load(api.PSW{Problem: true, Key: 5, Code: 0x1234, Addr: at})
		x.fails("44003000", 4)
	}
	x.load(api.PSW{Problem: true, Code: 0x1234, Addr: at})
	x.put(aim, "44000300")
	x.fails("44000300", 3)
	x.inKey(0)
	x.put(aim, "0803")
	x.give(1, 0x90)
	x.give(9, 0x48)
	x.succeeds("44100300")
	check(t, x.keys()[1] == 9, "SSK by EX", x.keys())
	x.put(aim, "82000180")
	x.put(0x180, "01 00 0000 00 000500")
	p := x.succeeds("44000300")
	check(t, p == api.PSW{Mask: 1, Addr: 0x500}, "LPSW by EX", p)
}

// TestExecuteQuestion has SIO, TIO, HIO and TCH by EX: the question is open, and the next instruction is that after the EX.
func TestExecuteQuestion(t *testing.T) {
	for k, op := range []string{"9C", "9D", "9E", "9F"} {
		x, ex := newTarget(t, 1, op+"000190")
		x.put(at, ex+"1800")
		question := api.Event{Kind: api.EvStart + k, Unit: 0x190}
		x.steps(question, question)
		x.answer(3)
		x.steps(api.Event{})
		check(t, x.c.PSW().Addr == at+6 && x.c.Count() == 2, "after the question", x.c.PSW(), x.c.Count())
	}
}

// TestExecuteSupervisorCall has SVC by EX: its code is that with the register's byte, the old program status word is that after the EX.
func TestExecuteSupervisorCall(t *testing.T) {
	for _, q := range []struct{ r1, code int }{{0, 0x21}, {1, 0x7B}} {
		x, ex := newTarget(t, q.r1, "0A21")
		x.give(0, 0xFF)
		x.give(1, 0x5A)
		e, p := x.run(ex)
		check(t, e == intr(api.ClassSvc, q.code) && p == handler(api.ClassSvc), "SVC by EX", e, p)
		old := x.psw
		old.Code, old.ILC, old.Addr = q.code, 2, at+4
		check(t, x.digitsAt(32, 8) == textOf(old) && x.c.Count() == 1, "old program status word", x.digitsAt(32, 8))
	}
}

// TestExecuteBranch has branches by EX, with and without a link: the link is that of the address after the EX, with its ILC; a branch that is not taken goes on there.
func TestExecuteBranch(t *testing.T) {
	const five, link = 6 * 0x0F1E2D3B, 0x95000204
	for _, q := range []struct {
		target string
		addr   int
		left   uint32
	}{
		{"47F00500", 0x500, five}, {"47400500", 0x500, five}, {"47B00500", at + 4, five}, {"07F9", 0x600, five}, {"0709", at + 4, five}, {"07F0", at + 4, five},
		{"0559", 0x600, link}, {"0550", at + 4, link}, {"45500500", 0x500, link}, {"46500500", 0x500, five - 1}, {"0659", 0x600, five - 1}, {"0650", at + 4, five - 1},
		{"86590500", 0x500, 0x7000}, {"87590500", at + 4, 0x7000},
	} {
		x, ex := newTarget(t, 0, q.target)
		x.give(9, 0xAB000600)
		if q.left == 0x7000 {
			x.give(5, 0x6000)
			x.give(9, 0x1000)
		}
		p := x.succeeds(ex)
		check(t, p.Addr == q.addr && p.ILC == 2, "EX of", q.target, p)
		check(t, x.c.Regs()[5] == q.left, "the register after EX of", q.target, x.c.Regs()[5])
	}
}

// TestExecuteInRow has EX one after the other, each of a target that the one before it changed.
func TestExecuteInRow(t *testing.T) {
	x := newSetting(t, 0)
	x.give(1, 0)
	x.put(at, "44000300 44000304 44000304 44100308")
	x.put(aim, "96010305 92000180 41200007")
	x.steps(api.Event{}, api.Event{})
	check(t, x.digitsAt(0x180, 1) == "01" && x.digitsAt(aim+4, 4) == "92010180", "the target that was changed", x.digitsAt(aim+4, 4))
	x.steps(api.Event{}, api.Event{})
	check(t, x.c.Regs()[2] == 7 && x.c.Count() == 4, "the last target", x.c.Regs()[2])
}
