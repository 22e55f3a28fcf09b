package ccw_test

import (
	"fmt"
	"testing"

	"jobshop/api"
	"jobshop/ccw"
)

// show prints the results of a call, bytes in hexadecimal.
func show(results ...any) string {
	s := ""
	for i, r := range results {
		if i > 0 {
			s += ", "
		}
		switch v := r.(type) {
		case []byte:
			s += fmt.Sprintf("[% X]", v)
		default:
			s += fmt.Sprintf("%+v", v)
		}
	}
	return s
}

// TestExamples has the rows of the chapter's table of examples.
func TestExamples(t *testing.T) {
	rows := []struct{ name, got, want string }{
		{"Direction of 02", show(ccw.Direction(0x02)), show(ccw.Read)},
		{"Direction of 01", show(ccw.Direction(0x01)), show(ccw.Write)},
		{"Direction of 07", show(ccw.Direction(0x07)), show(ccw.Control)},
		{"Direction of 04", show(ccw.Direction(0x04)), show(ccw.Sense)},
		{"Direction of 0C", show(ccw.Direction(0x0C)), show(ccw.Back)},
		{"Direction of 08", show(ccw.Direction(0x08)), show(ccw.Jump)},
		{"Direction of 10", show(ccw.Direction(0x10)), "0"},
		{"Direction of 14", show(ccw.Direction(0x14)), show(ccw.Sense)},
		{"Direction of 256", show(ccw.Direction(256)), "0"},
		{"Encode", show(ccw.Encode(api.CCW{Op: 2, Addr: 0x1000, CC: true, Count: 80})), "[02 00 10 00 40 00 00 50], 0"},
		{"Encode without a count", show(ccw.Encode(api.CCW{Op: 2, Addr: 0x1000})), "[], 1"},
		{"Encode of a Jump with a count", show(ccw.Encode(api.CCW{Op: 8, Addr: 16, Count: 1})), "[], 1"},
		{"Encode of Op 256", show(ccw.Encode(api.CCW{Op: 256})), "[], 6"},
		{"Decode of a Jump", show(ccw.Decode([]byte{0x08, 0x00, 0x00, 0x10, 0xFF, 0xFF, 0xFF, 0xFF})), show(api.CCW{Op: 8, Addr: 16}, true)},
		{"Decode of an unused flag", show(ccw.Decode([]byte{0x02, 0x00, 0x10, 0x00, 0x41, 0x00, 0x00, 0x50})), show(api.CCW{}, false)},
		{"EncodeCsw", show(ccw.EncodeCsw(api.CSW{Key: 3, Addr: 0x1008, Unit: 0x0C, Chan: 0x40, Count: 5})), "[30 00 10 08 0C 40 00 05], 0"},
		{"Caw", show(ccw.Caw([]byte{0x50, 0x00, 0x10, 0x08})), "5, 4104, true"},
		{"Caw with a low half", show(ccw.Caw([]byte{0x51, 0x00, 0x10, 0x08})), "0, 0, false"},
		{"Caw of an odd address", show(ccw.Caw([]byte{0x50, 0x00, 0x10, 0x09})), "0, 0, false"},
	}
	for _, r := range rows {
		check(t, r.got == r.want, r.name, "=", r.got, "want", r.want)
	}
}
