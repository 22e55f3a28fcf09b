package unitrec_test

import (
	"bytes"
	"fmt"
	"math"
	"testing"

	"jobshop/api"
	"jobshop/unitrec"
)

// check reports the values if the condition is false.
func check(t *testing.T, condition bool, about string, values ...any) {
	t.Helper()
	if !condition {
		t.Error(append([]any{about}, values...)...)
	}
}

// unit is what the devices and their models have in common.
type unit interface {
	Do(op int, data []byte) api.Reply
	PowerUp()
}

// bench is a device beside its model; describe returns their descriptions.
type bench struct {
	t            *testing.T
	device, want unit
	describe     func() (got, want string)
	past         string // the last calls
}

// newReaderBench has a reader with the cards.
func newReaderBench(t *testing.T, cards [][]byte) (*bench, *unitrec.Reader, *wantReader) {
	t.Helper()
	r := newReader(t, cards)
	w := &wantReader{hopper: texts(cards)}
	return &bench{t: t, device: r, want: w, describe: func() (string, string) { return readerText(r), w.state() }}, r, w
}

// newReader returns a reader with the cards.
func newReader(t *testing.T, cards [][]byte) *unitrec.Reader {
	t.Helper()
	r, err := unitrec.NewReader(cards)
	if err != api.OK || r == nil {
		t.Fatal("NewReader of", len(cards), "cards =", r, int(err))
	}
	return r
}

// newPunchBench has a new punch.
func newPunchBench(t *testing.T) (*bench, *unitrec.Punch, *wantPunch) {
	p, w := unitrec.NewPunch(), &wantPunch{}
	return &bench{t: t, device: p, want: w, describe: func() (string, string) { return punchText(p), w.state() }}, p, w
}

// newPrinterBench has a new printer.
func newPrinterBench(t *testing.T) (*bench, *unitrec.Printer, *wantPrinter) {
	p, w := unitrec.NewPrinter(), newWantPrinter()
	return &bench{t: t, device: p, want: w, describe: func() (string, string) { return printerText(p), w.state() }}, p, w
}

// do performs a command and compares its result alone.
func (b *bench) do(op int, data []byte) {
	b.t.Helper()
	b.past = shorten(b.past + fmt.Sprintf(" %02X(% X)", op, data))
	checkReply(b.t, b.device.Do(op, data), b.want.Do(op, data), "after"+b.past)
}

// doAndLook performs a command and compares its result, and what the device is then.
func (b *bench) doAndLook(op int, data []byte) {
	b.t.Helper()
	b.do(op, data)
	b.look()
}

// powerUp performs PowerUp.
func (b *bench) powerUp() {
	b.t.Helper()
	b.past = shorten(b.past + " PowerUp")
	b.device.PowerUp()
	b.want.PowerUp()
	b.look()
}

// look compares what the device is, and its sense byte.
func (b *bench) look() {
	b.t.Helper()
	got, want := b.describe()
	check(b.t, got == want, "after"+b.past+" the device is", got, "want", want)
	checkReply(b.t, b.device.Do(4, nil), b.want.Do(4, nil), "Sense after"+b.past)
}

// shorten keeps the end of a long text.
func shorten(s string) string {
	return s[max(0, len(s)-1000):]
}

// checkReply compares results.
func checkReply(t *testing.T, got, want api.Reply, about string) {
	t.Helper()
	check(t, bytes.Equal(got.Data, want.Data) && got.Status == want.Status && got.Sense == want.Sense,
		about, "the result is", fmt.Sprintf("% X %02X %02X", got.Data, got.Status, got.Sense), "want", fmt.Sprintf("% X %02X %02X", want.Data, want.Status, want.Sense))
}

// numbersFrom returns a function that returns pseudo-random numbers from 0 to n - 1.
func numbersFrom(seed uint64) func(n int) int {
	return func(n int) int {
		seed = seed*6364136223846793005 + 1442695040888963407
		return int(seed>>33) % n
	}
}

// cardsOf returns n different cards.
func cardsOf(n int) [][]byte {
	cards := make([][]byte, n)
	for i := range cards {
		c := make([]byte, 80)
		for k := range c {
			c[k] = byte(i*7 + i/256*31 + k*k)
		}
		c[0], c[79] = byte(i/256), byte(i)
		cards[i] = c
	}
	return cards
}

// texts returns the bytes of the cards.
func texts(cards [][]byte) []string {
	var all []string
	for _, c := range cards {
		all = append(all, string(c))
	}
	return all
}

// number returns the four bytes of a number.
func number(n uint32) []byte {
	return []byte{byte(n >> 24), byte(n >> 16), byte(n >> 8), byte(n)}
}

// filled returns n bytes, all different from their neighbours and none of them a blank.
func filled(n int) []byte {
	b := make([]byte, n)
	for k := range b {
		b[k] = byte(0xC1 + k%9)
	}
	return b
}

// foreign are numbers beside the codes of one byte; the low byte of many of them is a command of a device.
func foreign() []int {
	var all []int
	for _, low := range []int{0x01, 0x02, 0x03, 0x04, 0x09, 0x0B, 0x11, 0x13, 0x14, 0x19, 0x1B, 0x23, 0x89, 0x8B} {
		for _, high := range []int{-1 << 8, 1 << 8, 1 << 16, 1 << 24, 1 << 31, 1 << 32, -1 << 32, math.MinInt, 1 << 62} {
			all = append(all, high+low)
		}
		all = append(all, -low)
	}
	return append(all, math.MinInt, math.MaxInt, math.MaxInt32, math.MinInt32)
}

// spoil overwrites all memory of b, also that beyond its length.
func spoil(b []byte) {
	b = b[:cap(b)]
	for k := range b {
		b[k] ^= 0xFF
	}
}
