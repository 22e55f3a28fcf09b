package ccw_test

import (
	"testing"

	"jobshop/api"
	"jobshop/ccw"
)

// statusNumbers are the numbers of a status word with their greatest values.
func statusNumbers() []struct {
	max int
	of  func(s *api.CSW) *int
} {
	return []struct {
		max int
		of  func(s *api.CSW) *int
	}{
		{15, func(s *api.CSW) *int { return &s.Key }},
		{1<<24 - 1, func(s *api.CSW) *int { return &s.Addr }},
		{255, func(s *api.CSW) *int { return &s.Unit }},
		{255, func(s *api.CSW) *int { return &s.Chan }},
		{65535, func(s *api.CSW) *int { return &s.Count }},
	}
}

// statusBases are status words with different contents in all fields.
func statusBases() []api.CSW {
	return []api.CSW{
		{},
		{Key: 15, Addr: 1<<24 - 1, Unit: 255, Chan: 255, Count: 65535},
		{Key: 9, Addr: 0xABCDEF, Unit: 0x3C, Chan: 0xA5, Count: 0x1234},
		{Key: 6, Addr: 0x543210, Unit: 0xC3, Chan: 0x5A, Count: 0xFEDC},
	}
}

// TestEncodeCsw has each number at its ends and with each bit alone, beside its ends and far from them (P12.4).
func TestEncodeCsw(t *testing.T) {
	for _, base := range statusBases() {
		for _, n := range statusNumbers() {
			for _, v := range append(near(n.max), beside(n.max)...) {
				s := base
				*n.of(&s) = v
				checkEncodeCsw(t, s)
			}
		}
	}
}

// TestEncodeCswOutside has each number one beside its range, alone and together with each other one (P12.4).
func TestEncodeCswOutside(t *testing.T) {
	for _, base := range statusBases() {
		for _, one := range statusNumbers() {
			for _, other := range statusNumbers() {
				for _, v := range []int{-1, one.max + 1} {
					for _, w := range []int{-1, 0, other.max, other.max + 1} {
						s := base
						*other.of(&s) = w
						*one.of(&s) = v
						b, err := ccw.EncodeCsw(s)
						check(t, len(b) == 0 && err == api.ErrRange, "EncodeCsw of", text(s), "=", digits(b), int(err), "want ErrRange")
					}
				}
			}
		}
	}
}

// TestEncodeCswEdges has all numbers at their ends and one beside, each with each (P12.4).
func TestEncodeCswEdges(t *testing.T) {
	for _, key := range edges(15) {
		for _, addr := range edges(1<<24 - 1) {
			for _, unit := range edges(255) {
				for _, channel := range edges(255) {
					for _, count := range edges(65535) {
						checkEncodeCsw(t, api.CSW{Key: key, Addr: addr, Unit: unit, Chan: channel, Count: count})
					}
				}
			}
		}
	}
}

// TestEncodeCswByHand has each field alone (P12.4).
func TestEncodeCswByHand(t *testing.T) {
	rows := []struct {
		s    api.CSW
		want string
	}{
		{api.CSW{}, "0000000000000000"},
		{api.CSW{Key: 1}, "1000000000000000"},
		{api.CSW{Key: 15}, "F000000000000000"},
		{api.CSW{Addr: 0x010203}, "0001020300000000"},
		{api.CSW{Unit: 0x81}, "0000000081000000"},
		{api.CSW{Chan: 0x42}, "0000000000420000"},
		{api.CSW{Count: 0x0102}, "0000000000000102"},
		{api.CSW{Key: 15, Addr: 1<<24 - 1, Unit: 255, Chan: 255, Count: 65535}, "F0FFFFFFFFFFFFFF"},
	}
	for _, r := range rows {
		b, err := ccw.EncodeCsw(r.s)
		check(t, digits(b) == r.want && err == api.OK, "EncodeCsw of", text(r.s), "=", digits(b), int(err), "want", r.want)
		s, ok := ccw.DecodeCsw(bytesOf(r.want))
		check(t, s == r.s && ok, "DecodeCsw of", r.want, "=", text(s), ok, "want", text(r.s))
	}
}

// TestDecodeCswBytes has each of the 256 bytes at each place of several words (P12.4).
func TestDecodeCswBytes(t *testing.T) {
	for _, sample := range samples() {
		for place := range 8 {
			for v := range 256 {
				b := bytesOf(sample)
				b[place] = byte(v)
				checkDecodeCsw(t, b)
			}
		}
	}
}

// TestDecodeCswKey checks that only a first byte whose low half is 0 is accepted (P12.4).
func TestDecodeCswKey(t *testing.T) {
	for v := range 256 {
		s, ok := ccw.DecodeCsw([]byte{byte(v), 0, 16, 8, 12, 64, 0, 5})
		want := api.CSW{}
		if v%16 == 0 {
			want = api.CSW{Key: v / 16, Addr: 0x1008, Unit: 12, Chan: 64, Count: 5}
		}
		check(t, s == want && ok == (v%16 == 0), "with the first byte", v, "the status word is", text(s), ok)
	}
}
