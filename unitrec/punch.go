package unitrec

import (
	"bytes"

	"jobshop/api"
	"jobshop/ebcdic"
)

// Punch is a card punch.
type Punch struct {
	device
	deck []card
}

// NewPunch returns a punch that has punched no cards.
func NewPunch() *Punch {
	return &Punch{}
}

// Do performs a command.
func (p *Punch) Do(op int, data []byte) api.Reply {
	if p == nil {
		return unitCheck(api.SnHelp)
	}
	return p.perform(op, data, p.own)
}

// own performs a command that only punches have.
func (p *Punch) own(op int, data []byte) ([]byte, int) {
	if op != PunchCard {
		return nil, api.SnReject
	}
	return nil, p.punch(data)
}

// punch punches a card with data and blanks behind it, and returns the sense.
func (p *Punch) punch(data []byte) int {
	switch {
	case len(data) > api.CardSize:
		return api.SnReject
	case len(p.deck) == MaxCards:
		return api.SnHelp
	}
	var c card
	for i := copy(c[:], data); i < len(c); i++ {
		c[i] = ebcdic.Blank
	}
	p.deck = append(p.deck, c)
	return normal
}

// Deck returns the punched cards, in order.
func (p *Punch) Deck() [][]byte {
	if p == nil {
		return nil
	}
	deck := make([][]byte, len(p.deck))
	for i, c := range p.deck {
		deck[i] = bytes.Clone(c[:])
	}
	return deck
}

// PowerUp clears the sense byte.
func (p *Punch) PowerUp() {
	if p != nil {
		p.clearSense()
	}
}
