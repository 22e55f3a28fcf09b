package ccw_test

import (
	"bytes"
	"slices"
	"testing"

	"jobshop/api"
	"jobshop/ccw"
)

// The laws are checked without the model of the other tests.

// commands are command words with all codes and combinations of flags, also invalid ones.
func commands() []api.CCW {
	next := numbersFrom(12)
	var all []api.CCW
	for op := range 256 {
		all = append(all, combinations(api.CCW{Op: op, Addr: next(1 << 24), Count: 1 + next(65535)})...)
		all = append(all, combinations(api.CCW{Op: op, Addr: 1<<24 - 1, Count: 65535 * next(2)})...)
		all = append(all, api.CCW{Op: op, Addr: next(1 << 24)})
	}
	return all
}

// TestCommandThere is P12.6 for Encode and Decode: a word that is encoded is decoded as it was.
func TestCommandThere(t *testing.T) {
	encoded := 0
	for _, c := range commands() {
		b, err := ccw.Encode(c)
		if err != api.OK {
			continue
		}
		encoded++
		got, ok := ccw.Decode(b)
		check(t, got == c && ok && len(b) == 8, "Decode of the encoding of", text(c), "=", text(got), ok)
	}
	check(t, encoded > 10000, "only so many words are encoded:", encoded)
}

// sequences are sequences of n bytes: each of the 256 bytes at each place, and pseudo-random ones, many of which are words.
func sequences(n int) [][]byte {
	var all [][]byte
	for _, s := range samples() {
		for place := range n {
			for v := range 256 {
				b := bytesOf(s)[:n]
				b[place] = byte(v)
				all = append(all, b)
			}
		}
	}
	next := numbersFrom(uint64(n))
	for range 30000 {
		b := make([]byte, n)
		for k := range b {
			b[k] = byte(next(256))
		}
		b[0] &= byte(0xF0 | next(2)*0x0F)
		b[n-1] &= byte(0xF8 | next(2)*0x07)
		b[4%n] &= byte(0xF8 | next(2)*0x07)
		all = append(all, b)
	}
	return all
}

// TestCommandBack is P12.6 for Decode: what was decoded can be encoded, and is decoded again as it was.
func TestCommandBack(t *testing.T) {
	decoded := 0
	for _, b := range sequences(8) {
		c, ok := ccw.Decode(b)
		if !ok {
			check(t, c == (api.CCW{}), "without a command word, Decode of", digits(b), "=", text(c))
			continue
		}
		decoded++
		again, err := ccw.Encode(c)
		same, sameOK := ccw.Decode(again)
		check(t, err == api.OK && same == c && sameOK, "the command word", text(c), "of", digits(b), "becomes", digits(again), text(same), sameOK)
		check(t, bytes.Equal(again[:4], b[:4]), "Encode of the command word of", digits(b), "=", digits(again))
	}
	check(t, decoded > 10000, "only so many sequences are command words:", decoded)
}

// TestStatusThere is P12.6 for EncodeCsw and DecodeCsw.
func TestStatusThere(t *testing.T) {
	next := numbersFrom(4)
	for _, key := range []int{0, 1, 7, 8, 15} {
		for unit := range 256 {
			for _, count := range []int{0, 1, 65535, next(65536)} {
				s := api.CSW{Key: key, Addr: next(1 << 24), Unit: unit, Chan: 255 - next(256), Count: count}
				b, err := ccw.EncodeCsw(s)
				got, ok := ccw.DecodeCsw(b)
				check(t, err == api.OK && got == s && ok && len(b) == 8, "DecodeCsw of the encoding of", text(s), "=", text(got), ok)
			}
		}
	}
}

// TestStatusBack is P12.6 for DecodeCsw: each byte is in the status word, so its encoding is what was decoded.
func TestStatusBack(t *testing.T) {
	decoded := 0
	for _, b := range sequences(8) {
		s, ok := ccw.DecodeCsw(b)
		if !ok {
			check(t, s == (api.CSW{}), "without a status word, DecodeCsw of", digits(b), "=", text(s))
			continue
		}
		decoded++
		again, err := ccw.EncodeCsw(s)
		same, sameOK := ccw.DecodeCsw(again)
		check(t, err == api.OK && bytes.Equal(again, b) && same == s && sameOK, "the status word", text(s), "of", digits(b), "becomes", digits(again), text(same), sameOK)
	}
	check(t, decoded > 10000, "only so many sequences are status words:", decoded)
}

// TestAddressThere is P12.6 for EncodeCaw and Caw.
func TestAddressThere(t *testing.T) {
	next := numbersFrom(5)
	for key := range 16 {
		for _, addr := range []int{0, 8, 1<<24 - 8, 8 * next(1<<21), 8 * next(1<<21), 1 << 23} {
			b, err := ccw.EncodeCaw(key, addr)
			gotKey, gotAddr, ok := ccw.Caw(b)
			check(t, err == api.OK && gotKey == key && gotAddr == addr && ok && len(b) == 4, "Caw of the encoding of", key, addr, "=", gotKey, gotAddr, ok)
		}
	}
}

// TestAddressBack is P12.6 for Caw.
func TestAddressBack(t *testing.T) {
	decoded := 0
	for _, b := range sequences(4) {
		key, addr, ok := ccw.Caw(b)
		if !ok {
			check(t, key == 0 && addr == 0, "without an address word, Caw of", digits(b), "=", key, addr)
			continue
		}
		decoded++
		again, err := ccw.EncodeCaw(key, addr)
		sameKey, sameAddr, sameOK := ccw.Caw(again)
		check(t, err == api.OK && bytes.Equal(again, b) && sameKey == key && sameAddr == addr && sameOK, "the address word", key, addr, "of", digits(b), "becomes", digits(again), sameKey, sameAddr, sameOK)
	}
	check(t, decoded > 5000, "only so many sequences are address words:", decoded)
}

// spoil overwrites all memory of b, also that beyond its length.
func spoil(b []byte) {
	b = b[:cap(b)]
	for k := range b {
		b[k] ^= 0xFF
	}
}

// TestArgumentsKept checks that nothing decoded is changed, and that what lies beyond its length is neither read nor changed (R3).
func TestArgumentsKept(t *testing.T) {
	for _, s := range samples() {
		for n := range 9 {
			for _, beyond := range []byte{0x00, 0x08, 0xFF} {
				all := append(bytesOf(s)[:n:n], bytes.Repeat([]byte{beyond}, 20)...)
				before := slices.Clone(all)
				checkAll(t, all[:n])
				check(t, bytes.Equal(all, before), "the bytes are", digits(all), "then, want", digits(before))
			}
		}
	}
}

// TestArgumentsNotRetained checks that what was decoded does not change with its bytes, and that a call does not depend on the one before (R3, R4).
func TestArgumentsNotRetained(t *testing.T) {
	for _, s := range samples() {
		b, short := bytesOf(s), bytesOf(s[:8])
		c, cOK := ccw.Decode(b)
		w, wOK := ccw.DecodeCsw(b)
		spoil(b)
		spoil(short)
		checkAll(t, b)
		checkAll(t, short)
		again, againOK := ccw.Decode(bytesOf(s))
		check(t, c == again && cOK == againOK, "Decode of", s, "=", text(c), "then", text(again))
		status, statusOK := ccw.DecodeCsw(bytesOf(s))
		check(t, w == status && wOK == statusOK, "DecodeCsw of", s, "=", text(w), "then", text(status))
		checkAll(t, bytesOf(s[:8]))
	}
}

// checkNew calls encode for two words in turn: results share no memory with each other or with the package (R3, R4).
func checkNew(t *testing.T, one, other string, encode func(s string) []byte) {
	t.Helper()
	kept := encode(one)
	spoil(encode(other))
	again := encode(one)
	check(t, digits(kept) == one && digits(again) == one, "the encoding of", one, "is", digits(kept), "and", digits(again), "after that of", other, "changed")
	spoil(kept)
	check(t, digits(again) == one, "the encoding of", one, "is", digits(again), "after the one before changed")
}

// TestResultsAreNew has the same words again and other ones (R3, R4).
func TestResultsAreNew(t *testing.T) {
	command := func(s string) []byte {
		c, _ := wantDecode(s)
		b, _ := ccw.Encode(c)
		return b
	}
	status := func(s string) []byte {
		c, _ := wantDecodeCsw(s)
		b, _ := ccw.EncodeCsw(c)
		return b
	}
	address := func(s string) []byte {
		key, addr, _ := wantCaw(s)
		b, _ := ccw.EncodeCaw(key, addr)
		return b
	}
	words := []string{"0200100040000050", "08ABCDEF00000000", "0CFFFFFFF800FFFF", "0200100040000050"}
	results := []string{"300010080C400005", "F0FFFFF8FFFFFFFF", "0000000000000000"}
	places := []string{"50001008", "F0FFFFF8", "00000000"}
	for k, one := range words {
		for _, other := range words[k:] {
			checkNew(t, one, other, command)
		}
	}
	for k := range results {
		for other := range results {
			checkNew(t, results[k], results[other], status)
			checkNew(t, places[k], places[other], address)
		}
	}
}

// TestErrorsThenWords checks that a call does not depend on one that failed (R4).
func TestErrorsThenWords(t *testing.T) {
	for _, v := range far() {
		ccw.Encode(api.CCW{Op: v, Addr: v, Count: v, CD: true})
		ccw.EncodeCsw(api.CSW{Key: v, Addr: v})
		ccw.EncodeCaw(v, v)
		ccw.Direction(v)
		ccw.Decode([]byte{byte(v)})
		ccw.DecodeCsw([]byte{byte(v), 1})
		ccw.Caw([]byte{byte(v), 1, 2})
		checkEncode(t, api.CCW{Op: 2, Addr: 0x1000, CC: true, Count: 80})
		checkEncodeCsw(t, api.CSW{Key: 3, Addr: 0x1008, Unit: 12, Chan: 64, Count: 5})
		checkEncodeCaw(t, 5, 0x1008)
		for _, s := range samples() {
			checkAll(t, bytesOf(s))
			checkAll(t, bytesOf(s[:8]))
		}
	}
}
