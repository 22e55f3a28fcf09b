package unitrec_test

import (
	"testing"
)

// TestPunchLengths has data of all lengths and beyond (P13.2).
func TestPunchLengths(t *testing.T) {
	b, _, _ := newPunchBench(t)
	for n := range 300 {
		b.doAndLook(1, filled(n))
	}
	for _, n := range []int{336, 1000, 65536} {
		b.doAndLook(1, make([]byte, n))
	}
	b.doAndLook(1, nil)
	b.doAndLook(1, []byte{})
}

// TestPunchBytes has each byte at each place of a card (P13.2).
func TestPunchBytes(t *testing.T) {
	b, _, _ := newPunchBench(t)
	for first := range 256 {
		data := make([]byte, 80)
		for k := range data {
			data[k] = byte(first + 37*k)
		}
		b.do(1, data)
		b.do(1, data[:first%80])
	}
	b.look()
}

// TestPunchLimit punches MaxCards cards and more (P13.2).
func TestPunchLimit(t *testing.T) {
	b, p, _ := newPunchBench(t)
	for i, c := range cardsOf(4096) {
		b.do(1, c[:i%81])
		if i%100 == 0 {
			b.do(1, filled(81))
		}
	}
	check(t, len(p.Deck()) == 4096, "the deck has", len(p.Deck()), "cards")
	b.look()
	for range 3 {
		b.doAndLook(1, filled(3)) // SnHelp
		b.doAndLook(1, nil)
		b.doAndLook(1, filled(80))
		b.doAndLook(1, filled(81)) // SnReject
		b.doAndLook(3, nil)
		b.powerUp()
	}
	check(t, len(p.Deck()) == 4096, "the deck has", len(p.Deck()), "cards after the limit")
}

// TestPunchPowerUp checks that PowerUp changes the sense byte only (P13.2).
func TestPunchPowerUp(t *testing.T) {
	b, _, _ := newPunchBench(t)
	b.powerUp()
	for i, c := range cardsOf(20) {
		b.doAndLook(1, c[:4*i])
		b.do(2, nil)
		b.powerUp()
	}
}

// TestPunchSequences compares pseudo-random sequences with the model (P13.2).
func TestPunchSequences(t *testing.T) {
	for seed := range 20 {
		next := numbersFrom(uint64(seed))
		b, _, _ := newPunchBench(t)
		for range 200 {
			data := make([]byte, next(90))
			for k := range data {
				data[k] = byte(next(256))
			}
			switch next(10) {
			case 0:
				b.powerUp()
			case 1:
				b.doAndLook(next(256), data)
			default:
				b.doAndLook(1, data)
			}
		}
	}
}
