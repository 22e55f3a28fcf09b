package psw_test

import (
	"bytes"
	"slices"
	"testing"

	"jobshop/api"
	"jobshop/psw"
)

// TestThere is the first part of P6.6.
func TestThere(t *testing.T) {
	for _, p := range words() {
		b, ok := psw.Encode(p)
		if q, back := psw.Decode(b); q != p || !ok || !back {
			t.Errorf("Decode of the encoding of %s = %s, %v, %v", text(p), text(q), ok, back)
		}
	}
}

// sequences are sequences of eight bytes: each of the 256 bytes at each place, and mixed ones.
func sequences() [][]byte {
	var all [][]byte
	for _, fill := range []byte{0x00, 0x55, 0xA2, 0xF7} {
		for place := range 8 {
			for x := range 256 {
				b := bytes.Repeat([]byte{fill}, 8)
				b[place] = byte(x)
				all = append(all, b)
			}
		}
	}
	state := uint64(1)
	for range 20000 {
		b := make([]byte, 8)
		for i := range b {
			state = state*6364136223846793005 + 1442695040888963407
			b[i] = byte(state >> 56)
		}
		all = append(all, b)
	}
	return all
}

// TestBack is the second part of P6.6.
func TestBack(t *testing.T) {
	accepted := 0
	for _, b := range sequences() {
		p, ok := psw.Decode(b)
		if !ok {
			continue
		}
		accepted++
		if back, ok := psw.Encode(p); !bytes.Equal(back, b) || !ok {
			t.Errorf("Encode of the word of % X = % X, %v", b, back, ok)
		}
	}
	if accepted < 10000 {
		t.Errorf("only %d sequences are accepted", accepted)
	}
}

// interruptions are questions with all classes, codes and channels.
func interruptions() []ask {
	var all []ask
	for class := 0; class <= 6; class++ {
		for code := 0; code <= 12; code++ {
			for channel := -1; channel <= 7; channel++ {
				all = append(all, ask{class: class, code: code, channel: channel})
			}
		}
	}
	return all
}

// TestMasks is P6.7: what a word admits is admitted with each additional bit, too, and so with several.
func TestMasks(t *testing.T) {
	for _, p := range words() {
		more := []api.PSW{p}
		more[0].Machine = true
		for i := range 8 {
			q := p
			q.Mask |= 1 << i
			more = append(more, q)
		}
		for i := range 4 {
			q := p
			q.Prog |= 1 << i
			more = append(more, q)
		}
		for _, a := range interruptions() {
			if !psw.Admits(p, a.class, a.code, a.channel) {
				continue
			}
			for _, q := range more {
				if !psw.Admits(q, a.class, a.code, a.channel) {
					t.Errorf("%s admits less than %s: class %d, code %d, channel %d", text(q), text(p), a.class, a.code, a.channel)
				}
			}
		}
	}
}

// TestBranches is P6.8.
func TestBranches(t *testing.T) {
	for cc := range 4 {
		for mask := range 16 {
			for other := range 16 {
				if mask&other == 0 && mask+other == 15 && psw.Branch(mask, cc) == psw.Branch(other, cc) {
					t.Errorf("the masks %d and %d do the same with condition code %d", mask, other, cc)
				}
			}
		}
	}
}

// TestArgumentsKept checks that Decode neither changes its argument nor reads or changes what lies beyond its length (R3 of DOC.md).
func TestArgumentsKept(t *testing.T) {
	for _, p := range bases() {
		for n := range 9 {
			for _, rest := range []byte{0x00, 0x08, 0xFF} {
				all := append(fromBits(wantBits(p))[:n], bytes.Repeat([]byte{rest}, 20)...)
				before := slices.Clone(all)
				checkDecode(t, all[:n])
				if !bytes.Equal(all, before) {
					t.Errorf("the bytes are % X then, want % X", all, before)
				}
			}
		}
	}
}

// spoil overwrites all memory of b, also that beyond its length.
func spoil(b []byte) {
	b = b[:cap(b)]
	for i := range b {
		b[i] ^= 0xFF
	}
}

// TestArgumentsNotRetained checks that the word of a sequence does not change with it, and that the next call does not depend on the one before (R3, R4).
func TestArgumentsNotRetained(t *testing.T) {
	for _, want := range bases() {
		b := fromBits(wantBits(want))
		p, _ := psw.Decode(b)
		spoil(b)
		psw.Decode(b)
		if p != want {
			t.Errorf("the word is %s after its bytes changed, want %s", text(p), text(want))
		}
		checkDecode(t, b)
		checkDecode(t, fromBits(wantBits(want)))
	}
}

// TestResultsAreNew checks that encodings share no memory with each other or with the package (R3, R4).
func TestResultsAreNew(t *testing.T) {
	for _, p := range bases() {
		for _, q := range bases() {
			kept, _ := psw.Encode(p)
			other, _ := psw.Encode(q)
			spoil(other)
			again, _ := psw.Encode(p)
			if toBits(kept) != wantBits(p) || toBits(again) != wantBits(p) {
				t.Errorf("Encode of %s = % X, and % X after the encoding of %s changed", text(p), kept, again, text(q))
			}
			spoil(kept)
			if toBits(again) != wantBits(p) {
				t.Errorf("Encode of %s = % X after the one before changed", text(p), again)
			}
		}
	}
}

// TestInvalidThenValid checks that a call does not depend on one that failed (R4).
func TestInvalidThenValid(t *testing.T) {
	for _, bad := range invalid()[:100] {
		for _, p := range bases() {
			psw.Encode(bad)
			psw.Advance(bad, 2)
			psw.Decode([]byte{1, 8, 3})
			if b, ok := psw.Encode(p); toBits(b) != wantBits(p) || !ok {
				t.Errorf("Encode of %s = % X, %v after that of %s", text(p), b, ok, text(bad))
			}
			checkDecode(t, fromBits(wantBits(p)))
		}
	}
}
