package unitrec_test

import (
	"bytes"
	"testing"

	"jobshop/api"
)

// writes are the commands that write a line; moves are those that only move the paper.
var (
	writes = []int{0x01, 0x09, 0x11, 0x19, 0x89}
	moves  = []int{0x0B, 0x13, 0x1B, 0x8B}
)

// TestPrinterMoves performs each command at each row of a page (P13.3).
func TestPrinterMoves(t *testing.T) {
	for row := range 60 {
		for _, op := range append(append([]int{0x03, 0x04, 0x14}, writes...), moves...) {
			b, _, _ := newPrinterBench(t)
			b.do(0x8B, nil)
			for range row {
				b.do(0x0B, nil)
			}
			b.doAndLook(op, filled(2))
			b.doAndLook(op, filled(3))
			b.doAndLook(0x01, filled(4))
		}
	}
}

// TestPrinterSpaces performs one command many times, over some pages (P13.3).
func TestPrinterSpaces(t *testing.T) {
	for _, op := range append(append([]int{}, writes...), moves...) {
		b, p, w := newPrinterBench(t)
		for range 250 {
			b.do(op, filled(1))
			check(t, printerPlace(p) == w.place(), "after"+b.past+" the printer is at", printerPlace(p), "want", w.place())
		}
		b.look()
	}
}

// TestPrinterSkips skips from the first rows of many pages (P13.3).
func TestPrinterSkips(t *testing.T) {
	b, p, w := newPrinterBench(t)
	for i := range 500 {
		b.do([]int{0x8B, 0x89}[i%2], nil)
		check(t, printerPlace(p) == w.place(), "after", i, "skips the printer is at", printerPlace(p), "want", w.place())
		for range i % 60 {
			b.do(0x0B, nil)
		}
	}
	b.look()
}

// TestMovesIgnoreData gives data of any length to the commands that only move the paper (P13.3).
func TestMovesIgnoreData(t *testing.T) {
	b, _, _ := newPrinterBench(t)
	for _, op := range append([]int{0x14}, moves...) {
		for _, data := range datas() {
			b.doAndLook(op, data)
		}
	}
}

// TestPrinterLengths has data of all lengths and beyond (P13.3).
func TestPrinterLengths(t *testing.T) {
	for _, op := range writes {
		b, _, _ := newPrinterBench(t)
		for n := range 300 {
			b.doAndLook(op, filled(n))
		}
		for _, n := range []int{388, 1000, 65536} {
			b.doAndLook(op, make([]byte, n))
		}
		b.doAndLook(op, nil)
		b.doAndLook(op, []byte{})
	}
}

// TestPrinterText has each byte in the middle and at the end of a line, and blanks at all places (P13.3).
func TestPrinterText(t *testing.T) {
	b, _, _ := newPrinterBench(t)
	for code := range 256 {
		b.do(0x01, []byte{byte(code)})
		b.do(0x09, []byte{0xC1, byte(code)})
		b.do(0x01, []byte{byte(code), 0xC1, byte(code), 0x40})
	}
	for blanks := range 133 {
		b.do(0x01, bytes.Repeat([]byte{0x40}, blanks))
		b.do(0x01, append(filled(132-blanks), bytes.Repeat([]byte{0x40}, blanks)...))
		b.do(0x01, append(bytes.Repeat([]byte{0x40}, blanks), filled(132-blanks)...))
	}
	b.do(0x01, bytes.Repeat([]byte{0x40}, 133))
	b.do(0x01, []byte{0x40, 0x00, 0x40})
	b.do(0x01, []byte{0x20, 0x20})
	b.look()
}

// TestPrinterLimit writes MaxLines lines and more; beyond the limit the paper still moves (P13.3).
func TestPrinterLimit(t *testing.T) {
	b, p, w := newPrinterBench(t)
	for i := range 8192 {
		b.do(writes[i%5], []byte{byte(i), byte(i / 256), 0xF0})
		if i%50 == 0 {
			b.do(0x01, filled(133))
		}
		b.do(0x14, nil)
	}
	check(t, len(p.Paper()) == 8192, "the paper has", len(p.Paper()), "lines")
	b.look()
	for _, op := range writes {
		b.do(op, filled(5)) // SnHelp
		check(t, printerPlace(p) == w.place(), "a line that is not written moves the paper to", printerPlace(p), "want", w.place())
		b.do(0x04, nil)
		b.do(op, filled(133)) // SnReject
		b.do(0x04, nil)
		b.do(op, nil)
		b.do(0x14, nil)
	}
	for _, op := range moves {
		b.do(op, nil)
	}
	b.look()
	b.powerUp()
	b.do(0x01, nil)
	b.look()
}

// TestReadCount has the number after each of the first lines (P13.3).
func TestReadCount(t *testing.T) {
	b, p, _ := newPrinterBench(t)
	for i := range 600 {
		got := p.Do(0x14, nil)
		checkReply(t, got, api.Reply{Data: number(uint32(i)), Status: 0x0C}, "ReadCount")
		b.do(0x01, nil)
		b.do(0x0B, nil)
		b.do(0x01, filled(133))
		b.do(0x05, nil)
	}
	b.look()
}

// TestPrinterPowerUp checks that PowerUp changes the sense byte only (P13.3).
func TestPrinterPowerUp(t *testing.T) {
	b, _, _ := newPrinterBench(t)
	b.powerUp()
	for i := range 80 {
		b.do(writes[i%5], filled(i))
		b.do(0x02, nil)
		b.powerUp()
	}
}

// TestPrinterSequences compares pseudo-random sequences with the model (P13.3).
func TestPrinterSequences(t *testing.T) {
	for seed := range 20 {
		next := numbersFrom(uint64(seed))
		b, _, _ := newPrinterBench(t)
		for range 200 {
			data := make([]byte, next(140))
			for k := range data {
				data[k] = byte(next(256))
			}
			switch next(8) {
			case 0:
				b.powerUp()
			case 1:
				b.doAndLook(next(256), data)
			case 2, 3, 4:
				b.doAndLook(moves[next(4)], data)
			default:
				b.doAndLook(writes[next(5)], data)
			}
		}
	}
}
