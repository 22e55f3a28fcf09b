package ccw_test

import (
	"testing"

	"jobshop/api"
	"jobshop/ccw"
)

// TestEncodeCaw has keys and addresses at their ends, beside them and far from them, each with each (P12.5).
func TestEncodeCaw(t *testing.T) {
	keys := append(near(15), beside(15)...)
	addrs := append(near(1<<24-1), beside(1<<24-1)...)
	for _, addr := range near(1<<21 - 1) {
		addrs = append(addrs, 8*addr)
	}
	for _, key := range keys {
		for _, addr := range addrs {
			checkEncodeCaw(t, key, addr)
		}
	}
}

// TestEncodeCawMultiples checks that the address must be a multiple of 8 (P12.5).
func TestEncodeCawMultiples(t *testing.T) {
	for addr := range 1 << 12 {
		for _, key := range []int{0, 1, 15} {
			checkEncodeCaw(t, key, addr)
			checkEncodeCaw(t, key, 1<<24-1-addr)
		}
	}
	for rest := 1; rest < 8; rest++ {
		b, err := ccw.EncodeCaw(5, 0x1008+rest)
		check(t, len(b) == 0 && err == api.ErrArg, "EncodeCaw of", 0x1008+rest, "=", digits(b), int(err), "want ErrArg")
	}
}

// TestEncodeCawOrder has addresses that are no multiple of 8 together with numbers out of range: ErrRange comes first (P12.5).
func TestEncodeCawOrder(t *testing.T) {
	rows := []struct{ key, addr int }{
		{-1, 0}, {16, 0}, {-1, 1}, {16, 1}, {-1, 1<<24 - 1}, {16, 1<<24 - 1},
		{0, -1}, {0, -8}, {0, 1 << 24}, {0, 1<<24 + 1}, {15, -1}, {15, -8}, {15, 1 << 24}, {15, 1<<24 + 8},
		{-1, -1}, {-1, 1 << 24}, {16, -1}, {16, 1<<24 + 7}, {-16, 8}, {256, 8}, {1 << 32, 1},
	}
	for _, r := range rows {
		b, err := ccw.EncodeCaw(r.key, r.addr)
		check(t, len(b) == 0 && err == api.ErrRange, "EncodeCaw of", r.key, r.addr, "=", digits(b), int(err), "want ErrRange")
	}
}

// TestEncodeCawByHand has each field alone (P12.5).
func TestEncodeCawByHand(t *testing.T) {
	rows := []struct {
		key, addr int
		want      string
	}{
		{0, 0, "00000000"},
		{1, 0, "10000000"},
		{15, 0, "F0000000"},
		{0, 8, "00000008"},
		{0, 0x010208, "00010208"},
		{15, 1<<24 - 8, "F0FFFFF8"},
		{5, 0x1008, "50001008"},
	}
	for _, r := range rows {
		b, err := ccw.EncodeCaw(r.key, r.addr)
		check(t, digits(b) == r.want && err == api.OK, "EncodeCaw of", r.key, r.addr, "=", digits(b), int(err), "want", r.want)
		key, addr, ok := ccw.Caw(bytesOf(r.want))
		check(t, key == r.key && addr == r.addr && ok, "Caw of", r.want, "=", key, addr, ok, "want", r.key, r.addr)
	}
}

// TestCawBytes has each of the 256 bytes at each place of several words (P12.5).
func TestCawBytes(t *testing.T) {
	for _, s := range samples() {
		for place := range 4 {
			for v := range 256 {
				b := bytesOf(s[:8])
				b[place] = byte(v)
				checkCaw(t, b)
			}
		}
	}
}

// TestCawFirstAndLast has each first byte with each last byte (P12.5).
func TestCawFirstAndLast(t *testing.T) {
	for first := range 256 {
		for last := range 256 {
			key, addr, ok := ccw.Caw([]byte{byte(first), 0xFE, 0xDC, byte(last)})
			if first%16 == 0 && last%8 == 0 {
				check(t, key == first/16 && addr == 0xFEDC00+last && ok, "Caw with", first, last, "=", key, addr, ok)
			} else {
				check(t, key == 0 && addr == 0 && !ok, "Caw with", first, last, "=", key, addr, ok)
			}
		}
	}
}
