package store

import (
	"iter"

	"jobshop/api"
)

// lock is the number that stands for the key of a block and its fetch protection: the key times 2, plus 1 if the block is fetch-protected.
type lock byte

// maxLock is the greatest number of a lock.
const maxLock = 31

func (l lock) key() int {
	return int(l / 2)
}

func (l lock) fetchProtected() bool {
	return l%2 == 1
}

// mayStore returns whether an access with the key may store into a block, by its lock.
func mayStore(key int) func(lock) bool {
	return func(l lock) bool {
		return key == 0 || key == l.key()
	}
}

// mayFetch returns whether an access with the key may fetch from a block, by its lock.
func mayFetch(key int) func(lock) bool {
	stores := mayStore(key)
	return func(l lock) bool {
		return stores(l) || !l.fetchProtected()
	}
}

// blockOf returns the block that contains addr.
func blockOf(addr int) int {
	return addr / api.StoreBlock
}

// holds reports whether there is a storage and the n bytes from addr on are in it. It subtracts, because a sum of addr and n could overflow.
func (s *Store) holds(addr, n int) bool {
	return s != nil && addr >= 0 && n >= 0 && n <= len(s.bytes)-addr
}

// grants yields, for each block that the n bytes from addr on touch, whether may allows the access to it.
func (s *Store) grants(addr, n int, may func(lock) bool) iter.Seq[bool] {
	return func(yield func(bool) bool) {
		for at := addr; at < addr+n; {
			block := blockOf(at)
			if !yield(may(s.locks[block])) {
				return
			}
			at = (block + 1) * api.StoreBlock
		}
	}
}

// refusal returns the code that prevents an access to the n bytes from addr on, which may allows or not in each block that they touch, or api.CodeNone.
func (s *Store) refusal(addr, n int, may func(lock) bool) int {
	if !s.holds(addr, n) {
		return api.CodeAddressing
	}
	for granted := range s.grants(addr, n, may) {
		if !granted {
			return api.CodeProtection
		}
	}
	return api.CodeNone
}
