package unitrec_test

import (
	"slices"
	"testing"

	"jobshop/api"
	"jobshop/unitrec"
)

// checkNew gives cards to NewReader.
func checkNew(t *testing.T, cards [][]byte, want api.Errno) {
	t.Helper()
	r, err := unitrec.NewReader(cards)
	if err != want || (r != nil) != (want == api.OK) {
		t.Fatal("NewReader of", len(cards), "cards =", r, int(err), "want the error", int(want))
	}
	if r != nil {
		check(t, readerText(r) == countText(len(cards), 0, 0), "the new reader has", readerText(r), "of", len(cards))
	}
}

// replaced returns n cards of which one is replaced.
func replaced(n, at int, c []byte) [][]byte {
	cards := cardsOf(n)
	cards[at] = c
	return cards
}

// badCards do not have CardSize bytes.
func badCards() [][]byte {
	return [][]byte{nil, {}, {0x40}, filled(79), filled(81), filled(160), make([]byte, 79, 200), filled(336)}
}

// TestNewReader has the limit and cards that are none (P13.1).
func TestNewReader(t *testing.T) {
	for _, n := range []int{0, 1, 2, 3, 255, 256, 4095, 4096} {
		checkNew(t, cardsOf(n), api.OK)
	}
	checkNew(t, nil, api.OK)
	for _, n := range []int{4097, 4098, 8192, 10000} {
		checkNew(t, cardsOf(n), api.ErrLong)
		checkNew(t, make([][]byte, n), api.ErrLong)
		checkNew(t, replaced(n, 0, filled(81)), api.ErrLong)
	}
	for _, c := range badCards() {
		for _, place := range [][2]int{{1, 0}, {2, 0}, {2, 1}, {5, 2}, {4096, 0}, {4096, 4095}} {
			checkNew(t, replaced(place[0], place[1], c), api.ErrForm)
		}
	}
}

// checkAdd gives cards to Add of a bench's reader.
func checkAdd(t *testing.T, b *bench, r *unitrec.Reader, w *wantReader, cards [][]byte, want api.Errno) {
	t.Helper()
	err := r.Add(cards)
	check(t, err == want, "Add of", len(cards), "cards to", w.state(), "=", int(err), "want", int(want))
	if want == api.OK {
		w.hopper = append(w.hopper, texts(cards)...)
	}
	b.look()
}

// readAll reads all cards, and once more.
func readAll(b *bench, w *wantReader) {
	b.t.Helper()
	for range len(w.hopper) + 1 {
		b.do(2, nil)
	}
	b.look()
}

// TestAdd has the limit for all cards together, in all states of the cards (P13.1).
func TestAdd(t *testing.T) {
	all := cardsOf(4098)
	for _, n := range []int{0, 1, 2, 100, 4094, 4095, 4096} {
		for _, used := range []int{0, 1, n / 2, n} {
			b, r, w := newReaderBench(t, all[:n])
			for range used {
				b.do(2, nil)
			}
			b.do(0x23, number(uint32(used/2)))
			checkAdd(t, b, r, w, all[n:4097], api.ErrLong)
			checkAdd(t, b, r, w, make([][]byte, 4097-n), api.ErrLong)
			checkAdd(t, b, r, w, nil, api.OK)
			checkAdd(t, b, r, w, [][]byte{}, api.OK)
			if n < 4096 {
				checkAdd(t, b, r, w, all[n:n+1], api.OK)
			}
			checkAdd(t, b, r, w, all[n+1:max(n+1, 4096)], api.OK)
			checkAdd(t, b, r, w, all[:1], api.ErrLong)
			checkAdd(t, b, r, w, [][]byte{nil}, api.ErrLong)
			checkAdd(t, b, r, w, nil, api.OK)
			readAll(b, w)
		}
	}
}

// TestAddBadCards checks that nothing is added if one card is none (P13.1).
func TestAddBadCards(t *testing.T) {
	for _, c := range badCards() {
		for _, place := range [][2]int{{1, 0}, {2, 0}, {2, 1}, {7, 3}, {7, 6}} {
			b, r, w := newReaderBench(t, cardsOf(3))
			b.do(2, nil)
			b.do(5, nil)
			checkAdd(t, b, r, w, replaced(place[0], place[1], c), api.ErrForm)
			checkAdd(t, b, r, w, cardsOf(9)[8:], api.OK)
			checkAdd(t, b, r, w, replaced(4092, place[1], c), api.ErrForm)
			checkAdd(t, b, r, w, replaced(4093, place[1], c), api.ErrLong)
			readAll(b, w)
		}
	}
}

// TestAddAfterEnd checks that a reader without cards left reads those that are added, and that Add leaves the sense byte as it is (P13.1).
func TestAddAfterEnd(t *testing.T) {
	all := cardsOf(20)
	b, r, w := newReaderBench(t, nil)
	for i := range 10 {
		b.doAndLook(2, nil)
		checkAdd(t, b, r, w, all[2*i:2*i+1], api.OK)
		b.doAndLook(2, nil)
		b.doAndLook(2, nil)
		checkAdd(t, b, r, w, all[2*i+1:2*i+2], api.OK)
		b.doAndLook(0x23, number(uint32(i)))
	}
	b.powerUp()
	checkAdd(t, b, r, w, all[:2], api.OK)
	readAll(b, w)
}

// TestReadCard reads decks of many sizes, with any data (P13.1).
func TestReadCard(t *testing.T) {
	for _, n := range []int{0, 1, 2, 17, 256, 4096} {
		b, _, _ := newReaderBench(t, cardsOf(n))
		for i := range n + 3 {
			b.doAndLook(2, datas()[i%len(datas())])
		}
		b.powerUp()
		for range n + 3 {
			b.doAndLook(2, nil)
		}
	}
}

// TestReadCardBytes has each byte at each place of a card (P13.1).
func TestReadCardBytes(t *testing.T) {
	var cards [][]byte
	for first := range 256 {
		c := make([]byte, 80)
		for k := range c {
			c[k] = byte(first + 37*k)
		}
		cards = append(cards, c)
	}
	b, _, w := newReaderBench(t, cards)
	readAll(b, w)
}

// TestStackCard has all numbers of a small deck, after each number of cards that were read and stacked before (P13.1).
func TestStackCard(t *testing.T) {
	for taken := range 6 {
		for stacked := range taken + 1 {
			for n := range uint32(8) {
				b, _, _ := newReaderBench(t, cardsOf(5))
				for range taken {
					b.do(2, nil)
				}
				b.doAndLook(0x23, number(uint32(stacked)))
				b.doAndLook(0x23, number(n))
				b.powerUp()
				b.doAndLook(0x23, number(n))
				b.doAndLook(2, nil)
				b.doAndLook(2, nil)
			}
		}
	}
}

// TestStackCardMany has a large deck: each byte of the number matters (P13.1).
func TestStackCardMany(t *testing.T) {
	for _, taken := range []int{0, 1, 255, 256, 257, 1000, 4095, 4096} {
		b, _, _ := newReaderBench(t, cardsOf(4096))
		for range taken {
			b.do(2, nil)
		}
		for _, n := range []uint32{1, 255, 256, 257, 999, 1000, 1001, 4095, 4096, 4097, 65535, 65536, 65537, 1 << 24, 1<<24 + 1, 1<<31 - 1, 1 << 31, 1<<31 + 1, 1<<32 - 1, 1<<32 - 256, 0x01000000, 0x00010000, 0x00000100, 0x10100000, 0} {
			b.doAndLook(0x23, number(n))
			b.powerUp()
			for range taken {
				b.do(2, nil)
			}
			b.look()
		}
	}
}

// TestStackCardBits has each bit of the number alone, and with 1, after two cards (P13.1).
func TestStackCardBits(t *testing.T) {
	for bit := range 32 {
		b, _, _ := newReaderBench(t, cardsOf(3))
		b.do(2, nil)
		b.do(2, nil)
		b.doAndLook(0x23, number(1<<bit))
		b.doAndLook(0x23, number(1<<bit|1))
	}
}

// TestStackCardLengths has data that do not have four bytes (P13.1).
func TestStackCardLengths(t *testing.T) {
	b, _, _ := newReaderBench(t, cardsOf(3))
	b.do(2, nil)
	b.do(2, nil)
	for n := range 20 {
		for _, last := range []byte{0, 1, 2} {
			data := make([]byte, n)
			if n > 0 {
				data[n-1] = last
			}
			b.doAndLook(0x23, data)
			b.doAndLook(0x23, slices.Grow(data, 8))
		}
	}
	b.doAndLook(0x23, []byte{1, 0, 0, 0, 0})
	b.doAndLook(0x23, []byte{0, 0, 0, 1, 0})
	b.doAndLook(0x23, nil)
}

// TestReaderPowerUp checks that taken becomes stacked and the sense byte 0 (P13.1).
func TestReaderPowerUp(t *testing.T) {
	for taken := range 6 {
		for stacked := range taken + 1 {
			b, r, _ := newReaderBench(t, cardsOf(5))
			for range taken {
				b.do(2, nil)
			}
			b.do(0x23, number(uint32(stacked)))
			b.do(0x23, nil)
			b.powerUp()
			check(t, r.Taken() == stacked && r.Stacked() == stacked && r.Cards() == 5, "after PowerUp the reader has", readerText(r), "where", stacked, "were stacked")
			b.powerUp()
		}
	}
}

// TestReaderSequences compares long pseudo-random sequences with the model (P13.1).
func TestReaderSequences(t *testing.T) {
	for seed := range 60 {
		next := numbersFrom(uint64(seed))
		all := cardsOf(600)
		size := next(12)
		b, r, w := newReaderBench(t, all[:size])
		for range 400 {
			switch next(12) {
			case 0:
				b.powerUp()
			case 1:
				more := next(4)
				checkAdd(t, b, r, w, all[size%500:size%500+more], api.OK)
				size += more
			case 2:
				checkAdd(t, b, r, w, badCards()[:1+next(3)], api.ErrForm)
			case 3:
				b.doAndLook(next(256), number(uint32(next(5))))
			case 4, 5, 6:
				b.doAndLook(0x23, number(uint32(r.Stacked()+next(4)-1)))
			default:
				b.doAndLook(2, nil)
			}
		}
	}
}
