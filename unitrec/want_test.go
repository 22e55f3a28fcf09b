package unitrec_test

import (
	"fmt"
	"strconv"
	"strings"

	"jobshop/api"
	"jobshop/unitrec"
)

// The models keep cards in piles and punched cards and lines as text; their numbers are those of the chapter and of api.

// wantSense is the sense byte of a model.
type wantSense struct{ sense byte }

// good is the result of a command that ends normally.
func (w *wantSense) good(data string) api.Reply {
	return api.Reply{Data: []byte(data), Status: 0x0C}
}

// bad is the result of a command that ends with a unit check.
func (w *wantSense) bad(sense byte) api.Reply {
	w.sense = sense
	return api.Reply{Status: 0x0E, Sense: int(sense)}
}

// other is the result of a command that is not the device's own: of one that all devices have, or of one that the device does not have.
func (w *wantSense) other(op int) api.Reply {
	switch op {
	case 3:
		return w.good("")
	case 4:
		return w.good(string([]byte{w.sense}))
	}
	return w.bad(0x80)
}

// wantReader has three piles of cards, the first card of each first.
type wantReader struct {
	wantSense
	hopper, read, stacked []string
}

// take moves the first card of a pile behind another pile and returns it.
func take(from, to *[]string) string {
	first := (*from)[0]
	*from = (*from)[1:]
	*to = append(*to, first)
	return first
}

func (w *wantReader) Do(op int, data []byte) api.Reply {
	switch op {
	case 2:
		if len(w.hopper) == 0 {
			return w.bad(0x40)
		}
		return w.good(take(&w.hopper, &w.read))
	case 0x23:
		n, err := strconv.ParseUint(fmt.Sprintf("%X", data), 16, 64)
		if len(data) != 4 || err != nil || n > uint64(len(w.read)+len(w.stacked)) {
			return w.bad(0x80)
		}
		for uint64(len(w.stacked)) < n {
			take(&w.read, &w.stacked)
		}
		return w.good("")
	}
	return w.other(op)
}

func (w *wantReader) PowerUp() {
	w.hopper = append(append([]string{}, w.read...), w.hopper...)
	w.read, w.sense = nil, 0
}

// state describes the reader.
func (w *wantReader) state() string {
	return countText(len(w.stacked)+len(w.read)+len(w.hopper), len(w.stacked)+len(w.read), len(w.stacked))
}

// countText describes a reader by its numbers of cards.
func countText(cards, taken, stacked int) string {
	return fmt.Sprintf("%d cards, %d taken, %d stacked", cards, taken, stacked)
}

// readerText describes a reader.
func readerText(r *unitrec.Reader) string { return countText(r.Cards(), r.Taken(), r.Stacked()) }

// wantPunch has the punched cards as hexadecimal digits.
type wantPunch struct {
	wantSense
	deck []string
}

func (w *wantPunch) Do(op int, data []byte) api.Reply {
	switch {
	case op != 1:
		return w.other(op)
	case len(data) > 80:
		return w.bad(0x80)
	case len(w.deck) >= 4096:
		return w.bad(0x40)
	}
	w.deck = append(w.deck, (fmt.Sprintf("%X", data) + strings.Repeat("40", 80))[:160])
	return w.good("")
}

func (w *wantPunch) PowerUp() { w.sense = 0 }

// state describes the punch.
func (w *wantPunch) state() string { return strings.Join(w.deck, "\n") }

// punchText describes a punch.
func punchText(p *unitrec.Punch) string {
	var deck []string
	for _, c := range p.Deck() {
		deck = append(deck, fmt.Sprintf("%X", c))
	}
	return strings.Join(deck, "\n")
}

// wantPrinter counts pages and rows as the chapter does.
type wantPrinter struct {
	wantSense
	page, row int
	lines     []string
}

func newWantPrinter() *wantPrinter { return &wantPrinter{page: 1, row: 1} }

// space is "to space by n".
func (w *wantPrinter) space(n int) {
	w.row += n
	if w.row > 60 {
		w.row -= 60
		w.page++
	}
}

// skip is "to skip".
func (w *wantPrinter) skip() {
	w.page++
	w.row = 1
}

// write writes a line and then moves the paper, or returns false and the result.
func (w *wantPrinter) write(data []byte, move func()) api.Reply {
	switch {
	case len(data) > 132:
		return w.bad(0x80)
	case len(w.lines) >= 8192:
		return w.bad(0x40)
	}
	w.lines = append(w.lines, lineText(w.page, w.row, wantText(data)))
	return w.move(move)
}

// move moves the paper.
func (w *wantPrinter) move(move func()) api.Reply {
	move()
	return w.good("")
}

func (w *wantPrinter) Do(op int, data []byte) api.Reply {
	spaces := []func(){func() {}, func() { w.space(1) }, func() { w.space(2) }, func() { w.space(3) }}
	switch op {
	case 0x01:
		return w.write(data, spaces[0])
	case 0x09:
		return w.write(data, spaces[1])
	case 0x11:
		return w.write(data, spaces[2])
	case 0x19:
		return w.write(data, spaces[3])
	case 0x89:
		return w.write(data, w.skip)
	case 0x0B:
		return w.move(spaces[1])
	case 0x13:
		return w.move(spaces[2])
	case 0x1B:
		return w.move(spaces[3])
	case 0x8B:
		return w.move(w.skip)
	case 0x14:
		n := len(w.lines)
		return w.good(string([]byte{0, 0, byte(n / 256), byte(n % 256)}))
	}
	return w.other(op)
}

func (w *wantPrinter) PowerUp() { w.sense = 0 }

// place describes where the printer is.
func (w *wantPrinter) place() string { return fmt.Sprint(w.page, " ", w.row) }

// state describes the printer.
func (w *wantPrinter) state() string { return w.place() + "\n" + strings.Join(w.lines, "\n") }

// lineText describes a line.
func lineText(page, row int, text string) string { return fmt.Sprintf("%d/%d:%q", page, row, text) }

// printerPlace describes where a printer is.
func printerPlace(p *unitrec.Printer) string {
	page, row := p.At()
	return fmt.Sprint(page, " ", row)
}

// printerText describes a printer.
func printerText(p *unitrec.Printer) string {
	var lines []string
	for _, l := range p.Paper() {
		lines = append(lines, lineText(l.Page, l.Row, l.Text))
	}
	return printerPlace(p) + "\n" + strings.Join(lines, "\n")
}

// characters are the rows of the table of chapter 2: characters and their codes in hexadecimal digits.
var characters = [][2]string{
	{" !\"#$%&'", "405A7F7B5B6C507D"},
	{"()*+,-./", "4D5D5C4E6B604B61"},
	{"0123456789", "F0F1F2F3F4F5F6F7F8F9"},
	{":;<=>?@", "7A5E4C7E6E6F7C"},
	{"ABCDEFGHI", "C1C2C3C4C5C6C7C8C9"},
	{"JKLMNOPQR", "D1D2D3D4D5D6D7D8D9"},
	{"STUVWXYZ", "E2E3E4E5E6E7E8E9"},
	{"[\\]^_`", "BAE0BBB06D79"},
	{"abcdefghi", "818283848586878889"},
	{"jklmnopqr", "919293949596979899"},
	{"stuvwxyz", "A2A3A4A5A6A7A8A9"},
	{"{|}~", "C04FD0A1"},
}

// wantChar returns the character of a code, or a period.
func wantChar(code byte) string {
	for _, row := range characters {
		for i := range len(row[0]) {
			if row[1][2*i:2*i+2] == fmt.Sprintf("%02X", code) {
				return row[0][i : i+1]
			}
		}
	}
	return "."
}

// wantText returns the text of a line with the codes.
func wantText(data []byte) string {
	s := ""
	for _, code := range data {
		s += wantChar(code)
	}
	return strings.TrimRight(s, " ")
}
