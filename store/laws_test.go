package store_test

import (
	"bytes"
	"slices"
	"testing"

	"jobshop/api"
	"jobshop/store"
)

// numbersFrom returns a function that returns pseudo-random numbers from 0 to n - 1.
func numbersFrom(seed uint64) func(n int) int {
	return func(n int) int {
		seed = seed*6364136223846793005 + 1442695040888963407
		return int(seed>>33) % n
	}
}

// protectable returns a storage of three blocks with numbers that keys from 0 to 3 have.
func protectable(t *testing.T, next func(n int) int) pair {
	t.Helper()
	p := filled(t, 3)
	for block := range 3 {
		p.setKey(block*2048, next(8))
	}
	return p
}

// some returns an address and a number of bytes near the edges of the three blocks, most of them in storage.
func some(next func(n int) int) (addr, n int) {
	addr = next(4)*2048 + next(7) - 4
	return addr, []int{0, 1, 2, 3, 5, 2047, 2049, 4097, 6144}[next(9)]
}

// TestProtection is P7.7: a Put with a key other than 0 leaves the blocks that have another one as they are.
func TestProtection(t *testing.T) {
	next := numbersFrom(1)
	for range 2000 {
		p := protectable(t, next)
		before := p.s.Bytes(0, p.size())
		addr, n := some(next)
		key := next(18) - 1
		p.s.Put(addr, pattern(n, 77), key)
		after := p.s.Bytes(0, p.size())
		for block := range 3 {
			number, _ := p.s.KeyOf(block * 2048)
			from, to := block*2048, (block+1)*2048
			if key != 0 && key != number/2 && !bytes.Equal(after[from:to], before[from:to]) {
				t.Errorf("Put at %d of %d bytes, key %d: the block %d with the number %d changed", addr, n, key, block, number)
			}
		}
	}
}

// TestAllOrNothing is P7.8: Put is compared with a Put of each byte by itself.
func TestAllOrNothing(t *testing.T) {
	next := numbersFrom(2)
	for range 2000 {
		p := protectable(t, next)
		addr, n := some(next)
		key := next(6) - 1
		b := pattern(n, next(200)+7)
		before, single := p.s.Copy(), p.s.Copy()
		every := true
		for i := range b {
			every = single.Put(addr+i, b[i:i+1], key) == api.CodeNone && every
		}
		want := before
		if every {
			want = single
		}
		code := p.s.Put(addr, b, key)
		if n > 0 && (code == api.CodeNone) != every {
			t.Errorf("Put at %d of %d bytes, key %d = %d, for each of them: %v", addr, n, key, code, every)
		}
		if !bytes.Equal(p.s.Bytes(0, p.size()), want.Bytes(0, p.size())) {
			t.Errorf("Put at %d of %d bytes, key %d does not store all or none", addr, n, key)
		}
	}
}

// TestSequences makes many calls one after the other, some of them of copies (R4 of DOC.md).
func TestSequences(t *testing.T) {
	for _, blocks := range []int{1, 2, 3, 32} {
		next := numbersFrom(uint64(blocks))
		all := []pair{newPair(t, blocks), newPair(t, blocks), filled(t, blocks)}
		for i := range 3000 {
			p := all[next(len(all))]
			call(p, next)
			if next(50) == 0 {
				all[next(len(all))] = p.copied()
			}
			if i%100 == 0 || blocks < 4 && i%10 == 0 {
				for _, p := range all {
					p.same()
				}
			}
		}
	}
}

// call makes one call, most of them with ranges and addresses that are in storage.
func call(p pair, next func(n int) int) {
	p.t.Helper()
	addr := next(p.size()+2) - 1
	if next(2) == 0 {
		addr = next(p.size()/2048+1)*2048 - next(4)
	}
	n, key := next(6), next(18)-1
	if next(8) == 0 {
		n = next(5000)
	}
	switch next(8) {
	case 0, 1:
		p.put(addr, pattern(n, next(250)), key)
	case 2, 3:
		p.fetch(addr, n, key)
	case 4:
		p.setKey(addr, next(34)-1)
	case 5:
		p.keyOf(addr)
	case 6:
		p.bytes(addr, n)
	case 7:
		p.clear(addr, n)
	}
}

// spoil overwrites all memory of b, also that beyond its length.
func spoil(b []byte) {
	b = b[:cap(b)]
	for i := range b {
		b[i] ^= 0xFF
	}
}

// TestArgumentsKept checks that Put neither changes nor retains its bytes, and neither reads nor changes what lies beyond their length (R3).
func TestArgumentsKept(t *testing.T) {
	for _, addr := range []int{0, 5, 2046, 2048, 4092, 4093, 4096, -1} {
		for _, key := range []int{0, 3, 5} {
			p := filled(t, 2)
			p.setKey(0, 6)
			p.setKey(2048, 6)
			all := pattern(5000, 8)
			before := slices.Clone(all)
			p.put(addr, all[:4], key)
			p.same()
			if !bytes.Equal(all, before) {
				t.Errorf("Put at %d with key %d changes its bytes", addr, key)
			}
			spoil(all)
			p.same()
			spoiled := slices.Clone(all)
			p.clear(0, p.size())
			p.put(0, pattern(p.size(), 9), 0)
			if !bytes.Equal(all, spoiled) {
				t.Errorf("the bytes of Put at %d change later", addr)
			}
		}
	}
}

// TestResultsAreNew checks that results share no memory with the storage or with each other (R3).
func TestResultsAreNew(t *testing.T) {
	reads := []func(s *store.Store, addr, n int) []byte{
		func(s *store.Store, addr, n int) []byte { return s.Bytes(addr, n) },
		func(s *store.Store, addr, n int) []byte {
			b, _ := s.Fetch(addr, n, 0)
			return b
		},
	}
	for _, r := range [][2]int{{0, 0}, {0, 1}, {2046, 4}, {0, 4096}, {4095, 1}, {4096, 0}, {1000, 0}} {
		for _, read := range reads {
			for _, again := range reads {
				p := filled(t, 2)
				kept, other := read(p.s, r[0], r[1]), again(p.s, r[0], r[1])
				want := slices.Clone(kept)
				spoil(other)
				p.same()
				p.clear(0, p.size())
				if !bytes.Equal(kept, want) || len(kept) != r[1] {
					t.Errorf("the bytes of %v change after they were read", r)
				}
			}
		}
	}
}

// TestNewIsNew checks that storages share nothing (R3, R4).
func TestNewIsNew(t *testing.T) {
	p, q := newPair(t, 2), newPair(t, 2)
	p.put(0, pattern(4096, 1), 0)
	p.setKey(2048, 31)
	q.same()
	newPair(t, 2).same()
	p.same()
}
