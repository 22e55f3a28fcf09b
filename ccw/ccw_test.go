package ccw_test

import (
	"testing"

	"jobshop/ccw"
)

// TestNumbers checks the numbers of the directions (section Functions).
func TestNumbers(t *testing.T) {
	check(t, ccw.Write == 1 && ccw.Read == 2 && ccw.Back == 3 && ccw.Control == 4 && ccw.Sense == 5 && ccw.Jump == 6,
		"the directions are", ccw.Write, ccw.Read, ccw.Back, ccw.Control, ccw.Sense, ccw.Jump)
}

// TestDirection has all command codes, and 1,000 numbers on each side of them (P12.1).
func TestDirection(t *testing.T) {
	for op := -1000; op <= 1255; op++ {
		got, want := ccw.Direction(op), wantDirection(op)
		check(t, got == want, "Direction of", op, "=", got, "want", want)
	}
}

// TestDirectionByHand has the first command codes, each with its direction, and the last ones (P12.1).
func TestDirectionByHand(t *testing.T) {
	first := []int{0, ccw.Write, ccw.Read, ccw.Control, ccw.Sense, ccw.Write, ccw.Read, ccw.Control, ccw.Jump, ccw.Write, ccw.Read, ccw.Control, ccw.Back, ccw.Write, ccw.Read, ccw.Control}
	for op, want := range first {
		check(t, ccw.Direction(op) == want, "Direction of", op, "=", ccw.Direction(op), "want", want)
		check(t, ccw.Direction(240+op) == want, "Direction of", 240+op, "=", ccw.Direction(240+op), "want", want)
	}
}

// TestNoDirection has numbers that are not from 0 to 255, among them some whose low bits would be a command code (P12.1).
func TestNoDirection(t *testing.T) {
	for _, op := range beside(255) {
		for _, n := range []int{op, op | 1, op | 2, op | 4} {
			if n < 0 || n > 255 {
				check(t, ccw.Direction(n) == 0, "Direction of", n, "=", ccw.Direction(n))
			}
		}
	}
}
