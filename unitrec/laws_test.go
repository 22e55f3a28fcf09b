package unitrec_test

import (
	"bytes"
	"slices"
	"testing"

	"jobshop/api"
	"jobshop/unitrec"
)

// The laws are checked without the models of the other tests.

// TestCards is P13.4: the cards are read in the order of the deck; after PowerUp from the first one that is not stacked; a stacked card is never read again.
func TestCards(t *testing.T) {
	for seed := range 100 {
		next := numbersFrom(uint64(seed))
		cards := cardsOf(30)
		r := newReader(t, cards[:20])
		at, stacked := 0, 0
		for i := range 200 {
			switch next(8) {
			case 0:
				r.PowerUp()
				at = stacked
			case 1:
				n := stacked + next(3)
				if r.Do(unitrec.StackCard, number(uint32(n))).Status&api.StCheck == 0 {
					check(t, n <= at, "the card", n, "was stacked though only", at, "were read")
					stacked = n
				} else {
					check(t, n > at, "the card", n, "was not stacked though", at, "were read")
				}
			default:
				reply := r.Do(unitrec.ReadCard, nil)
				if reply.Status&api.StCheck != 0 {
					check(t, at == r.Cards(), "no card was read though", at, "of", r.Cards(), "were")
					break
				}
				check(t, bytes.Equal(reply.Data, cards[at]), "the card", at, "is", reply.Data)
				check(t, at >= stacked, "the stacked card", at, "was read")
				at++
			}
			if i == 100 {
				check(t, r.Add(cards[20:]) == api.OK, "no cards were added")
			}
			check(t, r.Taken() == at && r.Stacked() == stacked && stacked <= at && at <= r.Cards(), "the reader has", readerText(r), "want", at, stacked)
		}
	}
}

// anyData returns data of some length around the limits.
func anyData(next func(n int) int) []byte {
	data := make([]byte, []int{0, 1, 4, 40, 79, 80, 81, 131, 132, 133}[next(10)])
	for k := range data {
		data[k] = byte(next(256))
	}
	return data
}

// before reports whether a line lies before another one.
func before(a, b unitrec.Line) bool {
	return a.Page < b.Page || a.Page == b.Page && a.Row < b.Row
}

// TestPaper is P13.5: the count is that of the lines, pages and rows never decrease, rows are on the page, and written lines never change.
func TestPaper(t *testing.T) {
	for seed := range 40 {
		next := numbersFrom(uint64(seed))
		p := unitrec.NewPrinter()
		var last []unitrec.Line
		for range 300 {
			if next(10) == 0 {
				p.PowerUp()
			}
			op := next(256)
			if next(3) > 0 {
				op = slices.Concat(writes, moves)[next(9)]
			}
			p.Do(op, anyData(next))
			paper := p.Paper()
			check(t, len(paper) >= len(last) && len(paper) <= len(last)+1 && slices.Equal(paper[:len(last)], last), "lines have changed after", op)
			checkReply(t, p.Do(unitrec.ReadCount, nil), api.Reply{Data: number(uint32(len(paper))), Status: 0x0C}, "ReadCount")
			page, row := p.At()
			here := unitrec.Line{Page: page, Row: row}
			check(t, row >= 1 && row <= 60 && page >= 1, "the printer is at", page, row)
			for i, l := range paper {
				check(t, l.Row >= 1 && l.Row <= 60 && l.Page >= 1 && !before(here, l), "the line", i, "is", l, "the printer is at", here)
				check(t, i == 0 || !before(l, paper[i-1]), "the line", i, "is", l, "behind", paper[max(0, i-1)])
			}
			last = paper
		}
	}
}

// TestDeck is P13.6: the cards are the data of the commands that punched, filled up with blanks.
func TestDeck(t *testing.T) {
	for seed := range 40 {
		next := numbersFrom(uint64(seed))
		p := unitrec.NewPunch()
		var punched [][]byte
		for range 300 {
			op, data := []int{unitrec.PunchCard, unitrec.PunchCard, unitrec.PunchCard, 2, 3, 4, 9}[next(7)], anyData(next)
			reply := p.Do(op, data)
			if op == unitrec.PunchCard && reply.Status&api.StCheck == 0 {
				punched = append(punched, data)
			}
			if next(20) == 0 {
				p.PowerUp()
			}
		}
		deck := p.Deck()
		check(t, len(deck) == len(punched), "the deck has", len(deck), "cards of", len(punched))
		for i := range min(len(deck), len(punched)) {
			c, data := deck[i], punched[i]
			blanks := bytes.Repeat([]byte{0x40}, 80-len(data))
			check(t, len(c) == 80 && bytes.Equal(c[:len(data)], data) && bytes.Equal(c[len(data):], blanks), "the card", i, "is", c, "of", data)
		}
	}
}

// TestUnitCheckChangesNothing checks that commands which end with a unit check change the sense byte alone.
func TestUnitCheckChangesNothing(t *testing.T) {
	for seed := range 30 {
		next := numbersFrom(uint64(seed))
		for _, b := range benches(t) {
			for range 300 {
				was, _ := b.describe()
				reply := b.device.Do(next(256), anyData(next))
				is, _ := b.describe()
				if reply.Status&api.StCheck == 0 {
					check(t, reply.Status == 0x0C && reply.Sense == 0, "a normal result is", show(reply))
					continue
				}
				check(t, reply.Status == 0x0E && len(reply.Data) == 0 && (reply.Sense == 0x80 || reply.Sense == 0x40), "a unit check is", show(reply))
				check(t, was == is, "a unit check changes", was, "to", is)
				checkReply(t, b.device.Do(4, nil), api.Reply{Data: []byte{byte(reply.Sense)}, Status: 0x0C}, "Sense after a unit check")
			}
		}
	}
}

// TestArgumentsKept checks that no argument is changed, and that what lies beyond its length is neither read nor changed (R3).
func TestArgumentsKept(t *testing.T) {
	for op := range 256 {
		for _, n := range []int{0, 3, 4, 5, 79, 80, 81, 132, 133} {
			for _, beyond := range []byte{0x00, 0x40, 0xFF} {
				all := append(make([]byte, n), bytes.Repeat([]byte{beyond}, 200)...)
				was := slices.Clone(all)
				for _, b := range benches(t) {
					b.doAndLook(op, all[:n])
				}
				check(t, bytes.Equal(all, was), "the data of", op, "are changed")
			}
		}
	}
}

// whole returns a copy of a deck with what lies beyond its length and beyond those of its cards.
func whole(cards [][]byte) [][]byte {
	var all [][]byte
	for _, c := range cards[:cap(cards)] {
		all = append(all, bytes.Clone(c[:cap(c)]))
	}
	return all
}

// roomyDeck returns five cards and a row of bytes beyond them that is no card, all of them with bytes beyond their lengths.
func roomyDeck() [][]byte {
	cards := append(cardsOf(5), filled(3))
	for i, c := range cards {
		cards[i] = append(c, 1, 2, 3)[:len(c)]
	}
	return cards[:5]
}

// TestDecksKept checks that the decks of NewReader and Add are neither changed nor retained, nor what lies beyond them (R3).
func TestDecksKept(t *testing.T) {
	given, added, want := roomyDeck(), roomyDeck(), whole(roomyDeck())
	b, r, w := newReaderBench(t, given)
	checkAdd(t, b, r, w, added, api.OK)
	checkAdd(t, b, r, w, added[:6], api.ErrForm)
	readAll(b, w)
	for _, deck := range [][][]byte{given, added} {
		check(t, slices.EqualFunc(whole(deck), want, bytes.Equal), "a deck is", whole(deck), "then, want", want)
		for i, c := range deck {
			spoil(c)
			deck[i] = nil
		}
	}
	b.powerUp()
	readAll(b, w)
}

// TestDataNotRetained checks that punched cards and lines do not change with the data of their commands (R3).
func TestDataNotRetained(t *testing.T) {
	for _, b := range benches(t) {
		for _, n := range []int{1, 4, 79, 80} {
			data := filled(n)
			b.do(1, data)
			b.do(0x09, data)
			spoil(data)
			b.look()
		}
	}
}

// TestResultsAreNew checks that results share no memory with the devices or with each other (R3).
func TestResultsAreNew(t *testing.T) {
	for _, b := range benches(t) {
		for _, op := range []int{2, 3, 4, 5, 0x14, 4, 0x14} {
			spoil(b.device.Do(op, nil).Data)
			b.want.Do(op, nil)
			b.look()
		}
		b.powerUp()
		b.doAndLook(2, nil)
	}
	p := unitrec.NewPunch()
	for _, c := range cardsOf(10) {
		p.Do(unitrec.PunchCard, c)
	}
	first, second := p.Deck(), p.Deck()
	for i, c := range first {
		spoil(c)
		check(t, i == 9 || bytes.Equal(first[i+1], second[i+1]), "the card", i+1, "changes with the one before")
	}
	check(t, slices.EqualFunc(second, cardsOf(10), bytes.Equal) && slices.EqualFunc(p.Deck(), second, bytes.Equal), "the deck changes with a result")
}

// TestPaperIsNew checks that the lines of a printer do not change with a result (R3).
func TestPaperIsNew(t *testing.T) {
	b, p, _ := newPrinterBench(t)
	for i := range 20 {
		b.do(0x09, filled(i))
		for _, paper := range [][]unitrec.Line{p.Paper(), p.Paper()} {
			clear(paper[:cap(paper)])
		}
		b.look()
	}
}

// TestReadCardIsNew checks that a card that is read again is not changed with the result of the first time (R3).
func TestReadCardIsNew(t *testing.T) {
	cards := cardsOf(4)
	r := newReader(t, cards)
	for range 3 {
		for i, c := range cards {
			data := r.Do(unitrec.ReadCard, nil).Data
			check(t, bytes.Equal(data, c), "the card", i, "is", data)
			spoil(data)
		}
		r.PowerUp()
	}
}
