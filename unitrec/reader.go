package unitrec

import "jobshop/api"

// Reader is a card reader.
type Reader struct {
	device
	cards   []card
	taken   int // how many cards were read
	stacked int // how many of these cannot be returned to the hopper
}

// NewReader returns a reader with a deck in its hopper. It returns ErrLong if there are more than MaxCards cards, and ErrForm if a card does not have CardSize bytes.
func NewReader(cards [][]byte) (*Reader, api.Errno) {
	r := &Reader{}
	if err := r.Add(cards); err != api.OK {
		return nil, err
	}
	return r, api.OK
}

// Add adds cards behind those of the reader. Its errors are those of NewReader, where the limit holds for all cards together.
func (r *Reader) Add(cards [][]byte) api.Errno {
	if r == nil {
		return api.ErrNil
	}
	if len(cards) > MaxCards-len(r.cards) {
		return api.ErrLong
	}
	for _, c := range cards {
		if len(c) != api.CardSize {
			return api.ErrForm
		}
	}
	for _, c := range cards {
		r.cards = append(r.cards, card(c))
	}
	return api.OK
}

// Do performs a command.
func (r *Reader) Do(op int, data []byte) api.Reply {
	if r == nil {
		return unitCheck(api.SnHelp)
	}
	return r.perform(op, data, r.own)
}

// own performs a command that only readers have.
func (r *Reader) own(op int, data []byte) ([]byte, int) {
	switch op {
	case ReadCard:
		return r.read()
	case StackCard:
		return nil, r.stack(data)
	}
	return nil, api.SnReject
}

// read returns the next card, or the sense if there is none.
func (r *Reader) read() ([]byte, int) {
	if r.taken == len(r.cards) {
		return nil, api.SnHelp
	}
	next := r.cards[r.taken]
	r.taken++
	return next[:], normal
}

// stack stacks the cards up to the number that data represents, and returns the sense.
func (r *Reader) stack(data []byte) int {
	if len(data) != fullword {
		return api.SnReject
	}
	var n uint32
	for _, b := range data {
		n = n<<8 | uint32(b)
	}
	if n > uint32(r.taken) {
		return api.SnReject
	}
	r.stacked = max(r.stacked, int(n))
	return normal
}

// Cards returns the number of all cards.
func (r *Reader) Cards() int {
	if r == nil {
		return 0
	}
	return len(r.cards)
}

// Taken returns the number of cards that were read.
func (r *Reader) Taken() int {
	if r == nil {
		return 0
	}
	return r.taken
}

// Stacked returns the number of cards that are stacked.
func (r *Reader) Stacked() int {
	if r == nil {
		return 0
	}
	return r.stacked
}

// PowerUp returns the cards that were read but not stacked to the hopper, and clears the sense byte.
func (r *Reader) PowerUp() {
	if r == nil {
		return
	}
	r.clearSense()
	r.taken = r.stacked
}
