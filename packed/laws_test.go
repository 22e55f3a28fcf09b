package packed_test

import (
	"bytes"
	"slices"
	"strings"
	"testing"

	"jobshop/api"
	"jobshop/packed"
)

// TestThereAndBack is the first part of P3.8.
func TestThereAndBack(t *testing.T) {
	for _, d := range numbers() {
		for n := 1; n <= 16; n++ {
			b, over := packed.Encode(d, n)
			back, ok := packed.Decode(b)
			if !ok || !over && back != d {
				t.Errorf("Decode of %v in %d bytes = %v, %v", d, n, back, ok)
			}
		}
	}
}

// TestBackAndThere is the second part of P3.8, for each sign.
func TestBackAndThere(t *testing.T) {
	for n := 1; n <= 16; n++ {
		for _, digits := range []string{"", "7", strings.Repeat("0123456789", 4), strings.Repeat("9", 31)} {
			digits = fit(digits, 2*n-1)
			for sign, stored := range map[string]string{"A": "C", "B": "D", "C": "C", "D": "D", "E": "C", "F": "C"} {
				d, ok := packed.Decode(fromHex(digits + sign))
				if b, over := packed.Encode(d, n); toHex(b) != digits+stored || over || !ok {
					t.Errorf("Encode of what Decode returned for %s, %v, %v = %s, %v", digits+sign, d, ok, toHex(b), over)
				}
			}
		}
	}
}

// TestPackAndUnpack is P3.9.
func TestPackAndUnpack(t *testing.T) {
	for size := 1; size <= 8; size++ {
		for n := 2*size - 1; n <= 16; n++ {
			for _, b := range patterns(size) {
				if r := packed.Pack(packed.Unpack(b, n), size); !bytes.Equal(r, b) {
					t.Errorf("Pack of what Unpack returned for % X and %d = % X", b, n, r)
				}
			}
		}
	}
}

// TestZonedNumbers is P3.10.
func TestZonedNumbers(t *testing.T) {
	for _, d := range numbers() {
		for n := 1; n <= 16; n++ {
			b, over := packed.Zoned(d, n)
			if over {
				continue
			}
			for size := n/2 + 1; size <= 16; size++ {
				if back, ok := packed.Decode(packed.Pack(b, size)); back != d || !ok {
					t.Errorf("the number in %s, packed into %d bytes, is %v, %v, want %v", toHex(b), size, back, ok, d)
				}
			}
		}
	}
}

// operation is a call with a field, and what it returns.
type operation struct {
	name string
	call func(b []byte) []byte
}

func operations() []operation {
	return []operation{
		{"Decode", func(b []byte) []byte {
			d, _ := packed.Decode(b)
			return []byte(d.Digits)
		}},
		{"Pack", func(b []byte) []byte { return packed.Pack(b, 4) }},
		{"Pack into as many", func(b []byte) []byte { return packed.Pack(b, len(b)) }},
		{"Unpack", func(b []byte) []byte { return packed.Unpack(b, 7) }},
		{"Unpack into as many", func(b []byte) []byte { return packed.Unpack(b, len(b)) }},
		{"Offset of it", func(b []byte) []byte { return packed.Offset(b, []byte{0x56}) }},
		{"Offset by it", func(b []byte) []byte { return packed.Offset([]byte{0x11, 0x22, 0x33, 0x4C}, b) }},
		{"Offset of it by it", func(b []byte) []byte { return packed.Offset(b, b) }},
	}
}

// spoil overwrites all memory of b, also that beyond its length.
func spoil(b []byte) {
	b = b[:cap(b)]
	for i := range b {
		b[i] ^= 0xFF
	}
}

// TestArgumentsKept checks that functions neither change their argument nor read or change what lies beyond its length (R3 of DOC.md).
func TestArgumentsKept(t *testing.T) {
	field := []byte{0x01, 0x23, 0x4D}
	for _, o := range operations() {
		want := o.call(slices.Clone(field))
		for _, rest := range []byte{0x00, 0x5C, 0xFF} {
			all := append(slices.Clone(field), rest, rest, rest)
			before := slices.Clone(all)
			if r := o.call(all[:3]); !bytes.Equal(r, want) || len(r) == 0 {
				t.Errorf("%s = % X before bytes %x, want % X", o.name, r, rest, want)
			}
			if !bytes.Equal(all, before) {
				t.Errorf("%s: the bytes are % X then, want % X", o.name, all, before)
			}
			if r := o.call(all[:0]); len(r) != 0 {
				t.Errorf("%s of no bytes = % X before bytes %x", o.name, r, rest)
			}
		}
	}
}

// TestArgumentsNotRetained checks that a result does not change with the argument, nor the argument with the result (R3).
func TestArgumentsNotRetained(t *testing.T) {
	for _, o := range operations() {
		b := []byte{0x01, 0x23, 0x4D}
		r := o.call(b)
		before := slices.Clone(r)
		spoil(b)
		if !bytes.Equal(r, before) {
			t.Errorf("%s = % X, and % X after its argument changed", o.name, before, r)
		}
		b = []byte{0x01, 0x23, 0x4D}
		r = o.call(b)
		spoil(r)
		if !bytes.Equal(b, []byte{0x01, 0x23, 0x4D}) {
			t.Errorf("%s: the argument is % X after the result changed", o.name, b)
		}
	}
}

// TestResultsAreNew checks that results share no memory with each other or with the package (R3, R4).
func TestResultsAreNew(t *testing.T) {
	d := api.Dec{Neg: true, Digits: "1234"}
	calls := []func() []byte{
		func() []byte { b, _ := packed.Encode(d, 3); return b },
		func() []byte { b, _ := packed.Encode(d, 1); return b },
		func() []byte { b, _ := packed.Zoned(d, 3); return b },
		func() []byte { b, _ := packed.Zoned(d, 6); return b },
	}
	for _, o := range operations() {
		calls = append(calls, func() []byte { return o.call([]byte{0x01, 0x23, 0x4D}) })
	}
	for i, call := range calls {
		for j, other := range calls {
			kept := call()
			before := slices.Clone(kept)
			spoil(other())
			if again := call(); !bytes.Equal(kept, before) || !bytes.Equal(again, before) || len(before) == 0 {
				t.Errorf("call %d = % X, then % X, and % X after the result of call %d changed", i, before, kept, again, j)
			}
		}
	}
}
