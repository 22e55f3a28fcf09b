package unitrec

import (
	"slices"

	"jobshop/api"
	"jobshop/ebcdic"
)

// Line is a printed line: its page and its row on the page, both from 1 on, and its text without trailing blanks.
type Line struct {
	Page, Row int
	Text      string
}

// Printer is a line printer.
type Printer struct {
	device
	lines []Line
	above int // how many rows, of all pages, lie before the one at which the next line is written
}

// NewPrinter returns a printer at row 1 of page 1 that has written nothing.
func NewPrinter() *Printer {
	return &Printer{}
}

// Do performs a command.
func (p *Printer) Do(op int, data []byte) api.Reply {
	if p == nil {
		return unitCheck(api.SnHelp)
	}
	return p.perform(op, data, p.own)
}

// own performs a command that only printers have.
func (p *Printer) own(op int, data []byte) ([]byte, int) {
	switch op {
	case Write, WriteSpace1, WriteSpace2, WriteSpace3, WriteSkip:
		if sense := p.write(data); sense != normal {
			return nil, sense
		}
		p.move(op)
	case Space1, Space2, Space3, Skip:
		p.move(op)
	case ReadCount:
		n := len(p.lines)
		return []byte{byte(n >> 24), byte(n >> 16), byte(n >> 8), byte(n)}, normal
	default:
		return nil, api.SnReject
	}
	return nil, normal
}

// write writes a line and returns the sense.
func (p *Printer) write(data []byte) int {
	switch {
	case len(data) > api.LineSize:
		return api.SnReject
	case len(p.lines) == MaxLines:
		return api.SnHelp
	}
	page, row := p.At()
	p.lines = append(p.lines, Line{Page: page, Row: row, Text: ebcdic.Trim(data)})
	return normal
}

// move spaces or skips as the command op does.
func (p *Printer) move(op int) {
	switch op {
	case WriteSpace1, Space1:
		p.above++
	case WriteSpace2, Space2:
		p.above += 2
	case WriteSpace3, Space3:
		p.above += 3
	case WriteSkip, Skip:
		p.above += PageRows - p.above%PageRows
	}
}

// Paper returns the written lines, in order.
func (p *Printer) Paper() []Line {
	if p == nil {
		return nil
	}
	return slices.Clone(p.lines)
}

// At returns the page and the row at which the next line is written.
func (p *Printer) At() (page, row int) {
	if p == nil {
		return 0, 0
	}
	return 1 + p.above/PageRows, 1 + p.above%PageRows
}

// PowerUp clears the sense byte.
func (p *Printer) PowerUp() {
	if p != nil {
		p.clearSense()
	}
}
