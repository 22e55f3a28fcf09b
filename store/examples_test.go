package store_test

import (
	"fmt"
	"testing"

	"jobshop/api"
	"jobshop/store"
)

// show prints the results of a call, bytes in hexadecimal.
func show(results ...any) string {
	s := ""
	for i, r := range results {
		if i > 0 {
			s += ", "
		}
		switch v := r.(type) {
		case []byte:
			s += fmt.Sprintf("[% X]", v)
		default:
			s += fmt.Sprint(v)
		}
	}
	return s
}

type example struct{ name, got, want string }

func checkExamples(t *testing.T, rows []example) {
	t.Helper()
	for _, r := range rows {
		if r.got != r.want {
			t.Errorf("%s: %s, want %s", r.name, r.got, r.want)
		}
	}
}

// TestExamples has the rows of the chapter's table of examples, whose calls are made one after the other.
func TestExamples(t *testing.T) {
	s := newPair(t, 2).s
	checkExamples(t, []example{
		{"SetKey of 2048", show(s.SetKey(2048, 7)), "true"},
		{"KeyOf of 4095", show(s.KeyOf(4095)), "7, true"},
		{"KeyOf of 0", show(s.KeyOf(0)), "0, true"},
		{"KeyOf of 4096", show(s.KeyOf(4096)), "0, false"},
		{"Put at 2046, key 0", show(s.Put(2046, []byte{1, 2, 3, 4}, 0)), "0"},
		{"Bytes of 2046", show(s.Bytes(2046, 4)), "[01 02 03 04]"},
		{"Put at 2046, key 3", show(s.Put(2046, []byte{9, 9, 9}, 3)), "4"},
		{"Put at 2048, key 3", show(s.Put(2048, []byte{9}, 3)), "0"},
		{"Fetch of 2046, key 0", show(s.Fetch(2046, 4, 0)), "[01 02 09 04], 0"},
		{"Fetch of 2046, key 3", show(s.Fetch(2046, 4, 3)), "[01 02 09 04], 0"},
		{"Fetch of 2046, key 5", show(s.Fetch(2046, 4, 5)), "[], 4"},
		{"Fetch of two bytes", show(s.Fetch(2046, 2, 5)), "[01 02], 0"},
		{"Fetch of no bytes", show(s.Fetch(4096, 0, 5)), "[], 0"},
		{"Fetch beyond the end", show(s.Fetch(4095, 2, 5)), "[], 5"},
		{"Put at -1", show(s.Put(-1, nil, 0)), "5"},
		{"Clear of 2047", show(s.Clear(2047, 2)), "true"},
		{"Bytes then", show(s.Bytes(2046, 4)), "[01 00 00 04]"},
		{"Clear beyond the end", show(s.Clear(4090, 7)), "false"},
	})
}

// TestPromiseExamples has the examples of P7.1 to P7.3 that the table does not have.
func TestPromiseExamples(t *testing.T) {
	for _, size := range []int{1000, 0} {
		if s, err := store.New(size); s != nil || err != api.ErrArg {
			t.Errorf("New of %d = %v, %d", size, s, err)
		}
	}
	s := newPair(t, 2).s
	checkExamples(t, []example{
		{"Size", show(s.Size()), "4096"},
		{"SetKey without fetch protection", show(s.SetKey(2048, 6)), "true"},
		{"Put with key 0", show(s.Put(2046, []byte{5, 6, 7, 8}, 0)), "0"},
		{"Put with key 3", show(s.Put(2046, []byte{1, 1, 1, 1}, 3)), "4"},
		{"Fetch with key 5", show(s.Fetch(2046, 4, 5)), "[05 06 07 08], 0"},
		{"SetKey with fetch protection", show(s.SetKey(2048, 7)), "true"},
		{"Fetch with key 5 then", show(s.Fetch(2046, 4, 5)), "[], 4"},
		{"Fetch with key 3 then", show(s.Fetch(2046, 4, 3)), "[05 06 07 08], 0"},
		{"Fetch with key 0 then", show(s.Fetch(2046, 4, 0)), "[05 06 07 08], 0"},
	})
}
