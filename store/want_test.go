package store_test

import (
	"bytes"
	"math"
	"math/big"
	"slices"
	"testing"

	"jobshop/api"
	"jobshop/store"
)

// The expected results are computed on a model that knows no blocks in its accesses: each byte has the number of its key by itself, and an access is tried byte for byte.

// model is what a storage is to hold: for each address the byte, and the number that stands for its key and fetch protection.
type model struct {
	values, numbers []byte
}

func newModel(size int) model {
	return model{make([]byte, size), make([]byte, size)}
}

func (m model) size() int { return len(m.values) }

// holds reports whether the range is in storage, without overflow.
func (m model) holds(addr, n int) bool {
	end := new(big.Int).Add(big.NewInt(int64(addr)), big.NewInt(int64(n)))
	return addr >= 0 && n >= 0 && end.Cmp(big.NewInt(int64(m.size()))) <= 0
}

// isAddress reports whether there is a byte at addr.
func (m model) isAddress(addr int) bool { return addr >= 0 && addr < m.size() }

// owners returns the numbers of the bytes that may be stored at with the key.
func owners(key int) [32]bool {
	var owned [32]bool
	for number := range owned {
		owned[number] = key == 0
	}
	if key > 0 && key < 16 {
		owned[key+key], owned[key+key+1] = true, true
	}
	return owned
}

func (m model) fetch(addr, n, key int) ([]byte, int) {
	if !m.holds(addr, n) {
		return nil, 5
	}
	owned := owners(key)
	for i := range n {
		if number := m.numbers[addr+i]; number%2 == 1 && !owned[number] {
			return nil, 4
		}
	}
	return m.bytes(addr, n), 0
}

func (m model) put(addr int, b []byte, key int) int {
	if !m.holds(addr, len(b)) {
		return 5
	}
	owned := owners(key)
	for i := range b {
		if !owned[m.numbers[addr+i]] {
			return 4
		}
	}
	for i, v := range b {
		m.values[addr+i] = v
	}
	return 0
}

func (m model) setKey(addr, number int) bool {
	if !m.isAddress(addr) || number < 0 || number > 31 {
		return false
	}
	for i := range m.numbers {
		if i>>11 == addr>>11 {
			m.numbers[i] = byte(number)
		}
	}
	return true
}

func (m model) keyOf(addr int) (int, bool) {
	if !m.isAddress(addr) {
		return 0, false
	}
	return int(m.numbers[addr]), true
}

func (m model) bytes(addr, n int) []byte {
	if !m.holds(addr, n) {
		return nil
	}
	return slices.Clone(m.values[addr : addr+n])
}

func (m model) clear(addr, n int) bool {
	if !m.holds(addr, n) {
		return false
	}
	for i := range n {
		m.values[addr+i] = 0
	}
	return true
}

func (m model) copied() model {
	return model{slices.Clone(m.values), slices.Clone(m.numbers)}
}

// pair is a storage and the model of what it is to hold.
type pair struct {
	t *testing.T
	s *store.Store
	m model
}

// newPair returns a storage of some blocks that is as New returns it.
func newPair(t *testing.T, blocks int) pair {
	t.Helper()
	s, err := store.New(blocks * 2048)
	if s == nil || err != api.OK {
		t.Fatalf("New of %d blocks = %v, %d", blocks, s, err)
	}
	return pair{t, s, newModel(blocks * 2048)}
}

// filled returns a storage in which each byte differs from those around it and from those at the same place of other blocks, and each block has a number of its own.
func filled(t *testing.T, blocks int) pair {
	t.Helper()
	p := newPair(t, blocks)
	p.put(0, pattern(p.size(), 1), 0)
	for block := range blocks {
		p.setKey(block*2048+block, (block*7+11)%32)
	}
	return p
}

// pattern returns n bytes that are not 0.
func pattern(n, seed int) []byte {
	b := make([]byte, n)
	for i := range b {
		b[i] = byte((i+seed)*(i/255+seed)%255 + 1)
	}
	return b
}

func (p pair) size() int { return p.m.size() }

func (p pair) fetch(addr, n, key int) {
	p.t.Helper()
	want, wantCode := p.m.fetch(addr, n, key)
	if b, code := p.s.Fetch(addr, n, key); !bytes.Equal(b, want) || code != wantCode {
		p.t.Errorf("Fetch of %d, %d, key %d in %d bytes = %d bytes, %d, want %d bytes, %d", addr, n, key, p.size(), len(b), code, len(want), wantCode)
	}
}

func (p pair) put(addr int, b []byte, key int) {
	p.t.Helper()
	if code, want := p.s.Put(addr, b, key), p.m.put(addr, b, key); code != want {
		p.t.Errorf("Put at %d of %d bytes, key %d in %d bytes = %d, want %d", addr, len(b), key, p.size(), code, want)
	}
}

func (p pair) setKey(addr, number int) {
	p.t.Helper()
	if ok, want := p.s.SetKey(addr, number), p.m.setKey(addr, number); ok != want {
		p.t.Errorf("SetKey of %d, %d in %d bytes = %v, want %v", addr, number, p.size(), ok, want)
	}
}

func (p pair) keyOf(addr int) {
	p.t.Helper()
	want, wantOK := p.m.keyOf(addr)
	if number, ok := p.s.KeyOf(addr); number != want || ok != wantOK {
		p.t.Errorf("KeyOf of %d in %d bytes = %d, %v, want %d, %v", addr, p.size(), number, ok, want, wantOK)
	}
}

func (p pair) bytes(addr, n int) {
	p.t.Helper()
	want := p.m.bytes(addr, n)
	if b := p.s.Bytes(addr, n); !bytes.Equal(b, want) {
		p.t.Errorf("Bytes of %d, %d in %d bytes = %d bytes, want %d", addr, n, p.size(), len(b), len(want))
	}
}

func (p pair) clear(addr, n int) {
	p.t.Helper()
	if ok, want := p.s.Clear(addr, n), p.m.clear(addr, n); ok != want {
		p.t.Errorf("Clear of %d, %d in %d bytes = %v, want %v", addr, n, p.size(), ok, want)
	}
}

// copied returns a copy of the storage and of the model.
func (p pair) copied() pair {
	p.t.Helper()
	s := p.s.Copy()
	if s == nil || s == p.s {
		p.t.Fatalf("Copy of %d bytes = %p, want another than %p", p.size(), s, p.s)
	}
	return pair{p.t, s, p.m.copied()}
}

// same checks everything that the storage holds.
func (p pair) same() {
	p.t.Helper()
	if p.s.Size() != p.size() {
		p.t.Fatalf("Size = %d, want %d", p.s.Size(), p.size())
	}
	if b, want := p.s.Bytes(0, p.size()), p.m.values; !bytes.Equal(b, want) {
		p.t.Fatalf("the storage of %d bytes holds others than it is to hold: %d, the first one at %d", p.size(), len(b), difference(b, want))
	}
	for block := range p.size() / 2048 {
		p.keyOf(block * 2048)
		p.keyOf(block*2048 + 2047)
	}
}

// difference returns the first place at which a and b differ.
func difference(a, b []byte) int {
	i := 0
	for i < len(a) && i < len(b) && a[i] == b[i] {
		i++
	}
	return i
}

// far are numbers that are no addresses, numbers of bytes, keys or sizes, and whose sums or products overflow.
func far() []int {
	return []int{
		math.MinInt, math.MinInt + 1, math.MinInt + 2048, math.MinInt32, -1 << 32, -65536, -4096, -2049, -2048, -2047, -33, -32, -31, -16, -15, -2, -1,
		1<<16 + 1, 1<<16 + 2048, 1 << 17, 1 << 24, math.MaxInt32, 1 << 32, 1<<32 + 1, 1<<32 + 2048, 1<<62 + 2048, 1 << 62, math.MaxInt - 65535, math.MaxInt - 4095, math.MaxInt - 2047, math.MaxInt - 1, math.MaxInt,
	}
}

// places are the addresses around the edges of the blocks of a storage and around its ends, and some inside of blocks.
func places(size int) []int {
	var all []int
	for edge := 0; edge <= size; edge += 2048 {
		all = append(all, edge-2, edge-1, edge, edge+1, edge+1000)
	}
	return all
}
