package isa

import "testing"

// TestPartsOfTable checks that no part of the table is taken for a name, except the mnemonics themselves (P8.4).
func TestPartsOfTable(t *testing.T) {
	names := map[string]int{}
	for _, op := range Ops() {
		names[Name(op)] = op
	}
	for from := range len(table) {
		for to := from; to <= min(from+4*rowSize, len(table)); to++ {
			part := table[from:to]
			want, exists := names[part]
			if op, ok := Find(part); op != want || ok != exists {
				t.Errorf("Find of %q = %d, %v, want %d, %v", part, op, ok, want, exists)
			}
		}
	}
}

// TestWholeTable gives Find the table itself (P8.4).
func TestWholeTable(t *testing.T) {
	for _, name := range []string{table, table + table, table[:rowSize], table[rowSize:]} {
		if op, ok := Find(name); op != 0 || ok {
			t.Errorf("Find of %q = %d, %v", name, op, ok)
		}
	}
}
