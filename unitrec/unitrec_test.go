package unitrec_test

import (
	"slices"
	"testing"

	"jobshop/api"
	"jobshop/unitrec"
)

// TestCodes checks the codes of the commands and the limits (section Commands).
func TestCodes(t *testing.T) {
	got := []int{
		unitrec.NoOp, unitrec.Sense, unitrec.ReadCard, unitrec.StackCard, unitrec.PunchCard,
		unitrec.Write, unitrec.WriteSpace1, unitrec.WriteSpace2, unitrec.WriteSpace3, unitrec.WriteSkip,
		unitrec.Space1, unitrec.Space2, unitrec.Space3, unitrec.Skip, unitrec.ReadCount,
		unitrec.PageRows, unitrec.MaxCards, unitrec.MaxLines,
	}
	want := []int{
		0x03, 0x04, 0x02, 0x23, 0x01,
		0x01, 0x09, 0x11, 0x19, 0x89,
		0x0B, 0x13, 0x1B, 0x8B, 0x14,
		60, 4096, 8192,
	}
	check(t, slices.Equal(got, want), "the codes and limits are", got, "want", want)
}

// benches returns one device of each kind, used a little, with its model.
func benches(t *testing.T) []*bench {
	t.Helper()
	reader, _, _ := newReaderBench(t, cardsOf(5))
	punch, _, _ := newPunchBench(t)
	printer, _, _ := newPrinterBench(t)
	reader.do(2, nil)
	reader.do(2, nil)
	reader.do(0x23, number(1))
	punch.do(1, filled(3))
	printer.do(0x19, filled(3))
	return []*bench{reader, punch, printer}
}

// datas are data of commands: of a few lengths, among them numbers.
func datas() [][]byte {
	return [][]byte{nil, {}, {0}, {0, 0, 0, 0}, number(1), number(2), number(3), {0, 0, 0, 0, 1}, filled(80), filled(81), filled(132), filled(133), filled(2000)}
}

// TestEveryCode gives each code, and numbers that are none, with all kinds of data to a device of each kind (P13.1, P13.2, P13.3).
func TestEveryCode(t *testing.T) {
	for _, data := range datas() {
		for _, b := range benches(t) {
			for op := -300; op <= 600; op++ {
				b.do(op, data)
			}
			b.look()
		}
	}
}

// TestEveryCodeAlone gives each code to a new device, and looks at once.
func TestEveryCodeAlone(t *testing.T) {
	for op := -1; op <= 256; op++ {
		for _, data := range [][]byte{nil, number(2), filled(50)} {
			for _, b := range benches(t) {
				b.doAndLook(op, data)
			}
		}
	}
}

// TestForeignCodes has numbers that are not from 0 to 255, whose low byte often is a command.
func TestForeignCodes(t *testing.T) {
	for _, b := range benches(t) {
		for _, op := range foreign() {
			b.powerUp()
			b.doAndLook(op, nil)
			b.powerUp()
			b.doAndLook(op, number(1))
		}
	}
}

// TestNoOp checks that NoOp does nothing, whatever the data.
func TestNoOp(t *testing.T) {
	for _, b := range benches(t) {
		for _, data := range datas() {
			b.doAndLook(5, nil)
			b.doAndLook(3, data)
			b.powerUp()
			b.doAndLook(3, data)
		}
	}
}

// TestSense checks that the sense byte is 0 at first, that of the last unit check then, whatever ends normally in between, and 0 after PowerUp.
func TestSense(t *testing.T) {
	reader, _, _ := newReaderBench(t, nil)
	punch, _, _ := newPunchBench(t)
	printer, _, _ := newPrinterBench(t)
	for _, b := range []*bench{reader, punch, printer} {
		for _, data := range datas() {
			got := b.device.Do(unitrec.Sense, data)
			checkReply(t, got, api.Reply{Data: []byte{0}, Status: api.StChanEnd | api.StDevEnd}, "at first")
			b.do(0xFF, data)
			for range 3 {
				got := b.device.Do(unitrec.Sense, data)
				checkReply(t, got, api.Reply{Data: []byte{api.SnReject}, Status: api.StChanEnd | api.StDevEnd}, "after a unit check")
				b.do(3, data)
			}
			b.powerUp()
			b.powerUp()
		}
	}
}

// TestSenseChanges checks that each unit check replaces the sense byte, and that the result of a normal command has the sense 0 though the byte is not.
func TestSenseChanges(t *testing.T) {
	b, _, _ := newReaderBench(t, cardsOf(1))
	b.doAndLook(0x23, nil) // SnReject
	b.doAndLook(2, nil)    // normal
	b.doAndLook(2, nil)    // SnHelp
	b.doAndLook(0x23, number(1))
	b.doAndLook(0x23, number(2)) // SnReject
	b.doAndLook(3, nil)
	b.doAndLook(2, nil) // SnHelp
	b.powerUp()
	b.doAndLook(2, nil) // SnHelp
	b.doAndLook(1, nil) // SnReject
}

// TestNil checks all methods of nil devices.
func TestNil(t *testing.T) {
	var r *unitrec.Reader
	var p *unitrec.Punch
	var w *unitrec.Printer
	check(t, r.Add(nil) == api.ErrNil && r.Add(cardsOf(1)) == api.ErrNil && r.Add([][]byte{{1}}) == api.ErrNil && r.Add(make([][]byte, 4097)) == api.ErrNil, "Add of a nil reader does not return ErrNil")
	for _, u := range []unit{r, p, w} {
		for op := -10; op < 300; op++ {
			for _, data := range datas() {
				checkReply(t, u.Do(op, data), api.Reply{Status: api.StChanEnd | api.StDevEnd | api.StCheck, Sense: api.SnHelp}, "of a nil device")
			}
		}
		u.PowerUp()
	}
	check(t, r.Cards() == 0 && r.Taken() == 0 && r.Stacked() == 0, "a nil reader has cards:", r.Cards(), r.Taken(), r.Stacked())
	page, row := w.At()
	check(t, len(p.Deck()) == 0 && len(w.Paper()) == 0 && page == 0 && row == 0, "a nil punch or printer has", p.Deck(), w.Paper(), page, row)
}

// TestNew checks new devices.
func TestNew(t *testing.T) {
	p, w := unitrec.NewPunch(), unitrec.NewPrinter()
	if p == nil || w == nil {
		t.Fatal("a new device is nil")
	}
	page, row := w.At()
	check(t, len(p.Deck()) == 0 && len(w.Paper()) == 0 && page == 1 && row == 1, "new devices have", p.Deck(), w.Paper(), page, row)
}

// TestApart checks that devices of one kind have nothing in common.
func TestApart(t *testing.T) {
	first, second := benches(t), benches(t)
	for i, b := range first {
		for op := range 256 {
			b.do(op, filled(5))
		}
		b.look()
		second[i].look()
		second[i].do(2, nil)
		second[i].do(1, filled(6))
		second[i].powerUp()
		b.look()
	}
}
