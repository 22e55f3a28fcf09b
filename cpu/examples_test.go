package cpu_test

import (
	"fmt"
	"testing"

	"jobshop/api"
	"jobshop/cpu"
	"jobshop/store"
)

// plain returns a processor with a storage of 4096 bytes, with the bytes of the text at 256, and the program status word {Addr: 256}.
func plain(t *testing.T, text string) (*cpu.CPU, *store.Store) {
	t.Helper()
	s, err := store.New(4096)
	if err != api.OK {
		t.Fatal(err)
	}
	c, err := cpu.New(s)
	if err != api.OK {
		t.Fatal(err)
	}
	s.Put(256, bytesOf(text), 0)
	if err := c.Load(api.PSW{Addr: 256}); err != api.OK {
		t.Fatal(err)
	}
	return c, s
}

// TestExamples has the rows of the chapter's table of examples that are one step: the event, the registers 1 and 3, and the program status word.
func TestExamples(t *testing.T) {
	const target = "00 00 00 00 00 00 02 00"
	for _, r := range []struct {
		text string
		put  map[int]string
		p    api.PSW
		regs api.Regs
		want string
	}{
		{"1A 12", nil, api.PSW{Addr: 256}, api.Regs{1: 5, 2: 7}, "{0 0 0 0} 12 0 {0 0 false false false 0 1 2 0 258} 00 00 00 00 00 00 00 00"},
		{"0A 2B", map[int]string{96: target}, api.PSW{Addr: 256}, api.Regs{}, "{1 2 43 0} 0 0 {0 0 false false false 0 0 0 0 512} 00 00 00 2B 40 00 01 02"},
		{"00 00", map[int]string{104: target}, api.PSW{Addr: 256}, api.Regs{}, "{1 3 1 0} 0 0 {0 0 false false false 0 0 0 0 512} 00 00 00 01 40 00 01 02"},
		{"80 00 00 00", map[int]string{104: target}, api.PSW{Addr: 256, Problem: true}, api.Regs{}, "{1 3 2 0} 0 0 {0 0 false false false 0 0 0 0 512} 00 01 00 02 80 00 01 04"},
		{"44 10 01 10", map[int]string{272: "41 20 00 07"}, api.PSW{Addr: 256}, api.Regs{1: 0x30}, "{0 0 0 0} 48 7 {0 0 false false false 0 2 0 0 260} 00 00 00 00 00 00 00 00"},
		{"44 00 01 00", nil, api.PSW{Addr: 256}, api.Regs{}, "{1 3 3 0} 0 0 {0 0 false false false 0 0 0 0 0} 00 00 00 03 80 00 01 04"},
	} {
		c, s := plain(t, r.text)
		for addr, text := range r.put {
			s.Put(addr, bytesOf(text), 0)
		}
		c.Load(r.p)
		c.SetRegs(r.regs)
		e := c.Step()
		old := s.Bytes(40, 8)
		if e.Class == api.ClassSvc {
			old = s.Bytes(32, 8)
		}
		got := fmt.Sprintf("%v %d %d %v % X", e, c.Regs()[1], c.Regs()[3], c.PSW(), old)
		if got != r.want {
			t.Errorf("%s: %s, want %s", r.text, got, r.want)
		}
	}
}

// TestExampleOfQuestion is the row of the table with an SIO.
func TestExampleOfQuestion(t *testing.T) {
	c, _ := plain(t, "9C 00 01 90 18 00")
	want := api.Event{Kind: api.EvStart, Unit: 0x190}
	for range 2 {
		e := c.Step()
		check(t, e == want && c.PSW() == api.PSW{Addr: 260, ILC: 2} && c.Count() == 1, "SIO", e, c.PSW(), c.Count())
	}
	err := c.Answer(2)
	check(t, err == api.OK, "Answer", err)
	e := c.Step()
	check(t, e == api.Event{} && c.PSW() == api.PSW{Addr: 262, ILC: 1, CC: 2} && c.Count() == 2, "the next instruction", e, c.PSW(), c.Count())
}

// TestExampleOfInterruptions is the row of the table with two interruptions.
func TestExampleOfInterruptions(t *testing.T) {
	c, s := plain(t, "18 00")
	for _, addr := range []int{88, 120} {
		s.Put(addr, bytesOf("FF 00 00 00 00 00 01 00"), 0)
	}
	c.Load(api.PSW{Addr: 256, Mask: 0xFF})
	one, other := c.Raise(api.ClassIO, 400), c.Raise(api.ClassExternal, 7)
	check(t, one == api.OK && other == api.OK, "Raise", one, other)
	first, second := c.Step(), c.Step()
	check(t, first == intr(api.ClassExternal, 7) && second == intr(api.ClassIO, 400), "two steps", first, second)
	check(t, c.Step() == api.Event{} && c.Count() == 1, "the instruction behind them", c.Count())
}

// TestLocations has the locations of the table of classes.
func TestLocations(t *testing.T) {
	got := []int{cpu.OldExternal, cpu.OldSvc, cpu.OldProgram, cpu.OldMachine, cpu.OldIO, cpu.CswAt, cpu.CawAt, cpu.NewExternal, cpu.NewSvc, cpu.NewProgram, cpu.NewMachine, cpu.NewIO}
	want := []int{24, 32, 40, 48, 56, 64, 72, 88, 96, 104, 112, 120}
	for k := range want {
		check(t, got[k] == want[k], "location", k, got[k], want[k])
	}
}
