package isa_test

import (
	"bytes"
	"slices"
	"testing"

	"jobshop/api"
	"jobshop/isa"
)

// sequence returns n bytes that depend on seed.
func sequence(seed uint64, n int) []byte {
	b := make([]byte, n)
	for i := range b {
		seed = seed*6364136223846793005 + 1442695040888963407
		b[i] = byte(seed >> 56)
	}
	return b
}

// TestThere is the first part of P8.6.
func TestThere(t *testing.T) {
	for seed, i := range valid() {
		b, err := isa.Encode(i)
		if err != api.OK || len(b) != isa.Length(i.Op) {
			t.Fatalf("Encode of %s = % X, %d", text(i), b, err)
		}
		for n := range 8 {
			all := append(slices.Clone(b), sequence(uint64(seed), n)...)
			if back, ok := isa.Decode(all); back != i || !ok {
				t.Errorf("Decode of % X = %s, %v, want %s", all, text(back), ok, text(i))
			}
		}
	}
}

// TestBack is the second part of P8.6.
func TestBack(t *testing.T) {
	accepted := 0
	for seed := range uint64(50000) {
		b := sequence(seed, int(seed%9))
		i, ok := isa.Decode(b)
		if !ok {
			continue
		}
		accepted++
		if err := isa.Check(i); err != api.OK {
			t.Errorf("Check of %s, which % X is, = %d", text(i), b, err)
		}
		if again, err := isa.Encode(i); len(again) != isa.Length(i.Op) || again[0] != b[0] || err != api.OK {
			t.Errorf("Encode of %s, which % X is, = % X, %d", text(i), b, again, err)
		}
	}
	if accepted < 5000 {
		t.Errorf("only %d sequences are accepted", accepted)
	}
}

// TestTablesAgree checks that the functions say the same about the operation codes (P8.1, P8.4).
func TestTablesAgree(t *testing.T) {
	ops := isa.Ops()
	for op := -1; op <= 256; op++ {
		exists := slices.Contains(ops, op)
		_, ok := isa.Form(op)
		name := isa.Name(op)
		if found, known := isa.Find(name); ok != exists || (name != "") != exists || known != exists || known && found != op {
			t.Errorf("%d: in Ops %v, Form %v, Name %q, Find %d, %v", op, exists, ok, name, found, known)
		}
		if isa.Privileged(op) && !exists {
			t.Errorf("%d is privileged, but does not exist", op)
		}
	}
}

// TestArgumentsKept checks that Decode neither changes its argument nor reads or changes what lies beyond its length (R3 of DOC.md).
func TestArgumentsKept(t *testing.T) {
	for op := range 256 {
		for _, tail := range tails() {
			for n := range 8 {
				all := append([]byte{byte(op)}, slices.Repeat(tail, 4)...)
				before := slices.Clone(all)
				checkDecode(t, all[:n])
				if !bytes.Equal(all, before) {
					t.Errorf("the bytes are % X then, want % X", all, before)
				}
			}
		}
	}
}

// spoil overwrites all memory of s, also that beyond its length.
func spoil[T byte | int](s []T) {
	s = s[:cap(s)]
	for i := range s {
		s[i] ^= 0x7F
	}
}

// TestArgumentsNotRetained checks that the instruction of a sequence does not change with it, and that the next call does not depend on the one before (R3, R4).
func TestArgumentsNotRetained(t *testing.T) {
	for _, in := range known {
		for _, want := range in.bases() {
			b, _ := isa.Encode(want)
			i, _ := isa.Decode(b)
			spoil(b)
			if i != want {
				t.Errorf("the instruction is %s after its bytes changed, want %s", text(i), text(want))
			}
			checkDecode(t, b)
			again, _ := isa.Encode(want)
			checkDecode(t, again)
		}
	}
}

// TestBytesAreNew checks that the bytes of instructions share no memory with each other or with the package (R3, R4).
func TestBytesAreNew(t *testing.T) {
	for _, in := range known {
		for _, i := range in.bases() {
			for _, j := range in.bases() {
				kept, _ := isa.Encode(i)
				other, _ := isa.Encode(j)
				spoil(other)
				again, _ := isa.Encode(i)
				if toHex(kept) != wantEncode(i) || toHex(again) != wantEncode(i) {
					t.Errorf("Encode of %s = % X, and % X after the bytes of %s changed", text(i), kept, again, text(j))
				}
				spoil(kept)
				if toHex(again) != wantEncode(i) {
					t.Errorf("Encode of %s = % X after the bytes before changed", text(i), again)
				}
			}
		}
	}
}

// TestOpsAreNew checks that a change of what Ops returned changes no other result (R3, R4).
func TestOpsAreNew(t *testing.T) {
	kept, other := isa.Ops(), isa.Ops()
	spoil(other)
	again := isa.Ops()
	if !slices.Equal(kept, inOrder()) || !slices.Equal(again, inOrder()) {
		t.Errorf("Ops = %v, and %v after a result changed", kept, again)
	}
	for _, op := range numbers() {
		if isa.Name(op) != known[op].name || isa.Privileged(op) != known[op].privileged {
			t.Errorf("Name of %d = %q after the result of Ops changed", op, isa.Name(op))
		}
	}
}

// TestInvalidThenValid checks that a call does not depend on one that failed (R4).
func TestInvalidThenValid(t *testing.T) {
	for _, in := range known {
		for _, i := range in.bases() {
			for _, bad := range []api.Ins{{}, with(i, 'r', 16), with(i, 'd', -1), with(i, 'i', 256), {Op: i.Op, R1: 3, D2: 9}} {
				isa.Encode(bad)
				isa.Decode([]byte{byte(i.Op)})
				isa.Find("BE")
				isa.Mask("LM")
				if b, err := isa.Encode(i); toHex(b) != wantEncode(i) || err != api.OK {
					t.Errorf("Encode of %s = % X, %d after that of %s", text(i), b, err, text(bad))
				}
			}
		}
	}
}
