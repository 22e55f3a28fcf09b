package decops_test

import "testing"

// TestShiftByHand has SRP by hand: the condition code was 1.
func TestShiftByHand(t *testing.T) {
	c := newSetting(t, 0)
	for _, r := range []struct {
		before   string
		a, digit int
		want     string
		cc, code int
	}{
		{"01 2C", 1, 0, "12 0C", 2, 0}, {"01 2D", 1, 9, "12 0D", 1, 0}, {"99 9C", 1, 0, "99 0C", 3, 10}, {"10 0D", 1, 0, "00 0D", 3, 10}, {"10 0C", 3, 0, "00 0C", 3, 10},
		{"12 5C", 63, 5, "01 3C", 2, 0}, {"12 4C", 63, 5, "01 2C", 2, 0}, {"12 5D", 63, 5, "01 3D", 1, 0}, {"12 5C", 63, 4, "01 2C", 2, 0}, {"12 9C", 63, 1, "01 3C", 2, 0}, {"12 9C", 63, 0, "01 2C", 2, 0}, {"12 1C", 63, 9, "01 3C", 2, 0}, {"12 0C", 63, 9, "01 2C", 2, 0},
		{"12 5C", 62, 8, "00 2C", 2, 0}, {"12 5C", 62, 7, "00 1C", 2, 0}, {"19 9C", 62, 1, "00 2C", 2, 0}, {"99 9C", 62, 1, "01 0C", 2, 0}, {"99 9C", 61, 1, "00 1C", 2, 0}, {"99 9D", 61, 1, "00 1D", 1, 0}, {"99 9D", 61, 0, "00 0C", 0, 0}, {"99 9C", 60, 9, "00 0C", 0, 0}, {"99 9D", 32, 9, "00 0C", 0, 0},
		{"12 5F", 0, 5, "12 5C", 2, 0}, {"12 5B", 0, 0, "12 5D", 1, 0}, {"00 0D", 0, 0, "00 0C", 0, 0}, {"00 0D", 31, 0, "00 0C", 0, 0}, {"00 0D", 32, 9, "00 0C", 0, 0}, {"00 1C", 31, 0, "00 0C", 3, 10}, {"00 1D", 31, 0, "00 0D", 3, 10}, {"00 1C", 32, 9, "00 0C", 0, 0},
		{"1C", 1, 0, "0C", 3, 10}, {"9C", 63, 1, "1C", 2, 0}, {"9C", 63, 0, "0C", 0, 0}, {"00 00 00 00 00 00 00 00 00 00 00 00 00 00 00 1C", 30, 0, "10 00 00 00 00 00 00 00 00 00 00 00 00 00 00 0C", 2, 0}, {"00 00 00 00 00 00 00 00 00 00 00 00 00 00 00 1C", 31, 0, "00 00 00 00 00 00 00 00 00 00 00 00 00 00 00 0C", 3, 10},
		{"99 99 99 99 99 99 99 99 99 99 99 99 99 99 99 9C", 33, 1, "00 00 00 00 00 00 00 00 00 00 00 00 00 00 00 1C", 2, 0}, {"99 99 99 99 99 99 99 99 99 99 99 99 99 99 99 9C", 32, 9, "00 00 00 00 00 00 00 00 00 00 00 00 00 00 00 0C", 0, 0},
		{"12 5C", 1, 10, "12 5C", 1, 7}, {"12 5C", 63, 15, "12 5C", 1, 7}, {"12 5C", 0, 10, "12 5C", 1, 7}, {"12 54", 1, 0, "12 54", 1, 7}, {"1A 5C", 63, 0, "1A 5C", 1, 7},
		{"01 2C", 65, 0, "12 0C", 2, 0}, {"12 5C", 127, 5, "01 3C", 2, 0}, {"12 5C", 1<<24 - 1, 5, "01 3C", 2, 0}, {"12 5C", 64, 5, "12 5C", 2, 0}, {"01 2C", 1<<20 + 1, 0, "12 0C", 2, 0}, {"12 5C", 32 + 1024, 5, "00 0C", 0, 0}, {"00 0C", 31 + 4096, 5, "00 0C", 0, 0},
	} {
		for mask := range 16 {
			c.psw.Prog = mask
			code := r.code
			if code == 10 && mask&4 == 0 {
				code = 0
			}
			n := c.set(1024, r.before)
			got := c.exec(c.shift(n, 1024, r.a, r.digit))
			check(t, got.text(1024, n) == r.want && got.psw.CC == r.cc && got.code == code, "SRP", r, "mask", mask, "leaves", got.text(1024, n), got.psw.CC, got.code)
		}
	}
}

// TestShiftPlaces has every number of places with every rounding digit, for numbers of all lengths.
func TestShiftPlaces(t *testing.T) {
	c := newSetting(t, 0)
	next := numbersFrom(15)
	for a := range 64 {
		for digit := range 16 {
			for k, n := range []int{1, 2, 3, 7, 8, 9, 15, 16, 1 + next(16), 1 + next(16), 16, 16} {
				c.psw.CC, c.psw.Prog = (a+digit)%4, masks()[k%4]
				c.set(1024, numberOf(next, n))
				got := c.exec(c.shift(n, 1024, a+64*next(1<<18), digit)).code
				check(t, (got == 7) == (digit > 9), "SRP by", a, "rounded by", digit, got)
			}
		}
	}
}

// TestShiftAddress has the second address of SRP formed by a register and a displacement, and a base 0: nothing is fetched there.
func TestShiftAddress(t *testing.T) {
	c := newSetting(t, 6, 9)
	c.psw.Key = 3
	c.regs[0], c.regs[1], c.regs[2], c.regs[3] = 2, 0xFFFFFFFF, 1<<20, 2100
	for _, r := range []struct {
		b2, d2 int
		want   string
	}{
		{0, 0, "01 23 4C"}, {0, 1, "12 34 0C"}, {0, 63, "00 12 3C"}, {0, 4095, "00 12 3C"}, {1, 0, "00 12 3C"}, {1, 1, "01 23 4C"}, {1, 2, "12 34 0C"}, {2, 1, "12 34 0C"}, {2, 62, "00 01 2C"},
		{3, 12, "01 23 4C"}, {3, 10, "00 01 2C"}, {0, 2048, "01 23 4C"}, {0, 2049, "12 34 0C"}, {3, 4094, "00 00 0C"}, {3, 11, "00 12 3C"},
	} {
		c.set(1024, "01 23 4C")
		i := bare("SRP")
		i.L1, i.D1, i.B2, i.D2 = 2, 1024, r.b2, r.d2
		got := c.exec(i)
		check(t, got.code == 0 && got.text(1024, 3) == r.want, "SRP", r, got.text(1024, 3), got.code)
	}
}
