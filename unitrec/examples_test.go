package unitrec_test

import (
	"bytes"
	"fmt"
	"slices"
	"testing"

	"jobshop/api"
	"jobshop/unitrec"
)

// show describes a result: its data, and the status and sense unless it is normal.
func show(r api.Reply) string {
	if r.Status == api.StChanEnd|api.StDevEnd && r.Sense == 0 {
		return fmt.Sprintf("% X", r.Data)
	}
	return fmt.Sprintf("% X status %02X sense %02X", r.Data, r.Status, r.Sense)
}

// TestExampleReader has the first two rows of the chapter's table of examples.
func TestExampleReader(t *testing.T) {
	c := cardsOf(1)[0]
	r, err := unitrec.NewReader([][]byte{c})
	check(t, err == api.OK, "NewReader returns", int(err))
	rows := []struct{ name, got, want string }{
		{"ReadCard", show(r.Do(unitrec.ReadCard, nil)), fmt.Sprintf("% X", c)},
		{"ReadCard again", show(r.Do(unitrec.ReadCard, nil)), " status 0E sense 40"},
		{"Sense", show(r.Do(unitrec.Sense, nil)), "40"},
		{"StackCard 1", show(r.Do(unitrec.StackCard, []byte{0, 0, 0, 1})), ""},
		{"StackCard 2", show(r.Do(unitrec.StackCard, []byte{0, 0, 0, 2})), " status 0E sense 80"},
	}
	for _, row := range rows {
		check(t, row.got == row.want, row.name, "returns", row.got, "want", row.want)
	}
	r.PowerUp()
	check(t, r.Taken() == 1 && r.Stacked() == 1, "after PowerUp, taken and stacked are", r.Taken(), r.Stacked())
}

// checkLines performs the commands and compares the paper.
func checkLines(t *testing.T, do func(p *unitrec.Printer), want ...unitrec.Line) {
	t.Helper()
	p := unitrec.NewPrinter()
	do(p)
	check(t, slices.Equal(p.Paper(), want), "the paper is", p.Paper(), "want", want)
}

// TestExamplePrinter has the printer's rows of the table, and the example of P13.3.
func TestExamplePrinter(t *testing.T) {
	checkLines(t, func(p *unitrec.Printer) {
		p.Do(unitrec.Write, []byte{0xC1, 0xC2, 0x40})
		p.Do(unitrec.WriteSpace1, nil)
		p.Do(unitrec.Skip, nil)
		p.Do(unitrec.Write, []byte{0xC3})
	}, unitrec.Line{Page: 1, Row: 1, Text: "AB"}, unitrec.Line{Page: 1, Row: 1}, unitrec.Line{Page: 2, Row: 1, Text: "C"})
	checkLines(t, func(p *unitrec.Printer) {
		for range 20 {
			p.Do(unitrec.Space3, nil)
		}
		page, row := p.At()
		check(t, page == 2 && row == 1, "after 20 times Space3, At returns", page, row)
	})
	checkLines(t, func(p *unitrec.Printer) {
		p.Do(unitrec.WriteSpace2, []byte{0xC1, 0xC2})
		p.Do(unitrec.Write, []byte{0xC3})
		page, row := p.At()
		check(t, page == 1 && row == 3, "At returns", page, row)
	}, unitrec.Line{Page: 1, Row: 1, Text: "AB"}, unitrec.Line{Page: 1, Row: 3, Text: "C"})
}

// TestExamplePunch has the punch's row of the table.
func TestExamplePunch(t *testing.T) {
	p := unitrec.NewPunch()
	check(t, show(p.Do(unitrec.PunchCard, []byte{0xF1})) == "", "PunchCard of F1 does not end normally")
	got := show(p.Do(unitrec.PunchCard, make([]byte, 81)))
	check(t, got == " status 0E sense 80", "PunchCard of 81 bytes returns", got)
	want := append([]byte{0xF1}, bytes.Repeat([]byte{0x40}, 79)...)
	check(t, len(p.Deck()) == 1 && bytes.Equal(p.Deck()[0], want), "the deck is", p.Deck())
}

// TestExampleReject has the last row of the table.
func TestExampleReject(t *testing.T) {
	for _, u := range []unit{newReader(t, cardsOf(1)), unitrec.NewPunch(), unitrec.NewPrinter()} {
		got := show(u.Do(5, nil))
		check(t, got == " status 0E sense 80", "command 05 returns", got)
	}
}
