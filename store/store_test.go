package store_test

import (
	"slices"
	"testing"

	"jobshop/api"
	"jobshop/store"
)

// checkNew checks P7.1 for a size.
func checkNew(t *testing.T, size int) {
	t.Helper()
	want := size > 0 && size < 65537 && size&2047 == 0
	s, err := store.New(size)
	if !want && (s != nil || err != api.ErrArg) {
		t.Errorf("New of %d = %v, %d", size, s, err)
	}
	if !want {
		return
	}
	if s == nil || err != api.OK {
		t.Fatalf("New of %d = %v, %d", size, s, err)
	}
	pair{t, s, newModel(size)}.same()
}

func TestNew(t *testing.T) {
	for size := -70000; size <= 70000; size++ {
		checkNew(t, size)
	}
	for _, size := range far() {
		checkNew(t, size)
	}
}

// TestSize checks that the size remains (P7.1).
func TestSize(t *testing.T) {
	for blocks := 1; blocks <= 32; blocks++ {
		p := filled(t, blocks)
		p.clear(0, p.size())
		if size := p.s.Size(); size != blocks*2048 {
			t.Errorf("Size of %d blocks = %d", blocks, size)
		}
	}
}

// eachRange calls f with ranges that begin and end around the edges of blocks and of the storage, that are empty, and whose numbers are negative or too great.
func eachRange(size int, f func(addr, n int)) {
	starts := places(size)
	if size > 8*2048 {
		starts = []int{-1, 0, 1, 2047, 2048, 5000, size - 2049, size - 2048, size - 1, size, size + 1}
	}
	for _, from := range starts {
		for _, to := range starts {
			f(from, to-from)
		}
		for _, n := range []int{0, 1, 2, 3, 2046, 2047, 2048, 2049, 4096, 4097} {
			f(from, n)
		}
		for _, n := range far() {
			f(from, n)
		}
	}
	for _, addr := range far() {
		for _, n := range append(far(), 0, 1, 2, 2048, -addr, size-addr, size-addr+1) {
			f(addr, n)
		}
	}
}

// TestRanges gives all functions that have a range the ranges in storages of several sizes, with keys that may do everything (P7.2, P7.3, P7.5).
func TestRanges(t *testing.T) {
	for _, blocks := range []int{1, 2, 3, 32} {
		p := filled(t, blocks)
		eachRange(p.size(), func(addr, n int) {
			p.fetch(addr, n, 0)
			p.bytes(addr, n)
		})
		p.same()
		eachRange(p.size(), func(addr, n int) {
			if n >= 0 && n <= p.size()+5000 {
				p.put(addr, pattern(n, addr%50+60), 0)
				p.same()
			}
		})
		eachRange(p.size(), func(addr, n int) {
			changed := p.m.holds(addr, n) && n > 0
			p.clear(addr, n)
			p.same()
			if changed {
				p.put(addr, pattern(n, 3), 0)
			}
		})
	}
}

// TestKeysIgnored checks that Bytes and Clear do not ask for keys (P7.5).
func TestKeysIgnored(t *testing.T) {
	for number := range 32 {
		p := filled(t, 3)
		p.setKey(2048, number)
		for _, addr := range []int{2047, 2048, 3000, 4095} {
			p.bytes(addr, 2)
			p.clear(addr, 2)
			p.same()
		}
		p.bytes(0, p.size())
		p.clear(0, p.size())
		p.same()
	}
}

// keys are the keys and numbers that are none.
func keys() []int {
	all := far()
	for key := -35; key <= 40; key++ {
		all = append(all, key)
	}
	return append(all, 255, 256, 257, 259, 511, 512)
}

// TestKeys accesses a block with each number by each key (P7.2, P7.3).
func TestKeys(t *testing.T) {
	p := filled(t, 3)
	for number := range 32 {
		p.setKey(2048, number)
		for i, key := range keys() {
			for _, addr := range []int{2048, 2500, 4092} {
				p.fetch(addr, 4, key)
				p.put(addr, pattern(4, i+1), key)
				p.fetch(addr, 4, 0)
			}
		}
		p.same()
	}
}

// TestTwoBlocks accesses a range in two blocks with all their numbers by all keys, and what it has in each of them (P7.2, P7.3).
func TestTwoBlocks(t *testing.T) {
	p := filled(t, 2)
	for first := range 32 {
		p.setKey(0, first)
		for second := range 32 {
			p.setKey(4095, second)
			for key := -1; key <= 16; key++ {
				p.fetch(2046, 4, key)
				p.fetch(2046, 2, key)
				p.fetch(2047, 2, key)
				p.fetch(2048, 2, key)
				p.put(2046, pattern(4, key+2+first), key)
				p.put(2046, pattern(2, key+3+second), key)
				p.put(2048, pattern(2, key+4+first), key)
			}
		}
		p.same()
	}
}

// TestManyBlocks has one block of another key, which is at each place of ranges over several and over all blocks (P7.2, P7.3, P7.8).
func TestManyBlocks(t *testing.T) {
	for _, blocks := range []int{1, 2, 3, 5, 32} {
		for block := range blocks {
			p := filled(t, blocks)
			for i := range blocks {
				p.setKey(i*2048, 6)
			}
			for _, number := range []int{8, 9, 0, 1} {
				p.setKey(block*2048+5, number)
				for _, key := range []int{3, 4, 5, 0, 16} {
					p.fetch(0, p.size(), key)
					p.fetch(1, p.size()-2, key)
					p.put(0, pattern(p.size(), key+20), key)
					p.put(1, pattern(p.size()-2, key+30), key)
					p.put(2047, pattern(p.size()-2047, key+40), key)
					p.put(0, pattern(p.size()-2047, key+50), key)
				}
				p.same()
			}
		}
	}
}

// TestNoBytes checks that a range of no bytes touches no block, also within one (P7.2, P7.3).
func TestNoBytes(t *testing.T) {
	p := filled(t, 2)
	for number := range 32 {
		p.setKey(0, number)
		p.setKey(2048, 31-number)
		for _, addr := range []int{0, 1, 1000, 2047, 2048, 2049, 4095, 4096} {
			for _, key := range []int{0, 1, 5, 15, 16, -1} {
				if b, code := p.s.Fetch(addr, 0, key); len(b) != 0 || code != api.CodeNone {
					t.Errorf("Fetch of no bytes at %d = % X, %d", addr, b, code)
				}
				for _, none := range [][]byte{nil, {}} {
					if code := p.s.Put(addr, none, key); code != api.CodeNone {
						t.Errorf("Put of no bytes at %d = %d", addr, code)
					}
				}
			}
		}
		p.same()
	}
	for _, addr := range append(far(), 4097, 5000) {
		p.fetch(addr, 0, 0)
		p.put(addr, nil, 0)
		p.clear(addr, 0)
	}
}

// TestOrder has ranges that touch a block with another key and are not in storage (P7.2, P7.3).
func TestOrder(t *testing.T) {
	p := filled(t, 2)
	p.setKey(0, 31)
	p.setKey(2048, 31)
	for _, r := range [][2]int{{4095, 2}, {0, 4097}, {2047, 2050}, {-1, 2}, {4096, 1}, {-1, 4098}} {
		if b, code := p.s.Fetch(r[0], r[1], 5); len(b) != 0 || code != api.CodeAddressing {
			t.Errorf("Fetch of %v = % X, %d", r, b, code)
		}
		if code := p.s.Put(r[0], pattern(r[1], 9), 5); code != api.CodeAddressing {
			t.Errorf("Put at %v = %d", r, code)
		}
	}
	p.same()
	if b, code := p.s.Fetch(4095, 1, 5); len(b) != 0 || code != api.CodeProtection {
		t.Errorf("Fetch of the last byte = % X, %d", b, code)
	}
	if code := p.s.Put(4095, []byte{1}, 5); code != api.CodeProtection {
		t.Errorf("Put at the last byte = %d", code)
	}
	p.same()
}

// TestSetKey sets each number, and those that are none, at the ends of each block and where there is none (P7.4).
func TestSetKey(t *testing.T) {
	for _, blocks := range []int{1, 2, 3, 32} {
		for number := -2; number <= 34; number++ {
			p := filled(t, blocks)
			for block := range blocks {
				for _, addr := range []int{block * 2048, block*2048 + 2047, block*2048 + 77} {
					p.setKey(addr, (number+block+16)%32)
					p.setKey(addr, number)
					p.keyOf(addr)
				}
			}
			p.same()
			for _, addr := range append(far(), p.size(), p.size()+1, p.size()+2047) {
				p.setKey(addr, number)
			}
			p.same()
		}
	}
}

// TestSetKeyNumbers sets numbers that are far from those that stand for a key (P7.4).
func TestSetKeyNumbers(t *testing.T) {
	p := filled(t, 2)
	for _, number := range append(far(), 63, 64, 255, 256, 257, 287) {
		for _, addr := range []int{0, 2047, 2048, 4095, 4096, -1} {
			p.setKey(addr, number)
		}
		p.same()
	}
}

func TestKeyOf(t *testing.T) {
	for _, blocks := range []int{1, 2, 5, 32} {
		p := filled(t, blocks)
		for addr := -3; addr <= p.size()+3; addr++ {
			p.keyOf(addr)
		}
		for _, addr := range far() {
			p.keyOf(addr)
		}
	}
}

// TestCopy is P7.6: each of the functions that change a storage is called for the copy and for the original.
func TestCopy(t *testing.T) {
	changes := []func(p pair, block int){
		func(p pair, block int) { p.put(block*2048+100, []byte{0xAA, 0xBB}, 0) },
		func(p pair, block int) { p.clear(block*2048+200, 300) },
		func(p pair, block int) { p.setKey(block*2048+5, 30) },
		func(p pair, block int) { p.put(0, pattern(p.size(), 99), 0) },
	}
	for _, blocks := range []int{1, 2, 32} {
		for _, block := range []int{0, blocks - 1} {
			for _, change := range changes {
				p := filled(t, blocks)
				q := p.copied()
				q.same()
				change(q, block)
				p.same()
				q.same()
				r := q.copied()
				change(p, blocks-1-block)
				q.same()
				p.same()
				r.same()
			}
		}
	}
}

// TestCopyOutlives checks that a copy of a copy has what the first one had (P7.6).
func TestCopyOutlives(t *testing.T) {
	p := filled(t, 3)
	all := []pair{p}
	for i := range 6 {
		p = p.copied()
		p.setKey(i*700, 30-i)
		p.put(i*1000, pattern(1000, i), 0)
		all = append(all, p)
	}
	slices.Reverse(all)
	for _, p := range all {
		p.same()
		p.clear(0, p.size())
		p.setKey(0, 31)
	}
	for _, p := range all {
		p.same()
	}
}

// TestNil calls every method of a nil storage (R1 of DOC.md).
func TestNil(t *testing.T) {
	var s *store.Store
	for _, addr := range append(far(), 0, 1, 2047, 2048) {
		for _, n := range append(far(), 0, 1, 2) {
			if b, code := s.Fetch(addr, n, n); b != nil || code != 0 {
				t.Errorf("Fetch of %d, %d = % X, %d", addr, n, b, code)
			}
			if b := s.Bytes(addr, n); b != nil {
				t.Errorf("Bytes of %d, %d = % X", addr, n, b)
			}
			if s.Clear(addr, n) || s.SetKey(addr, n) {
				t.Errorf("Clear or SetKey of %d, %d is true", addr, n)
			}
		}
		for _, b := range [][]byte{nil, {}, {1}, {1, 2}} {
			if code := s.Put(addr, b, 0); code != 0 {
				t.Errorf("Put at %d of % X = %d", addr, b, code)
			}
		}
		if number, ok := s.KeyOf(addr); number != 0 || ok {
			t.Errorf("KeyOf of %d = %d, %v", addr, number, ok)
		}
	}
	if s.Size() != 0 || s.Copy() != nil {
		t.Errorf("Size and Copy = %d, %v", s.Size(), s.Copy())
	}
}
