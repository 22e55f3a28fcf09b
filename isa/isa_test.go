package isa_test

import (
	"maps"
	"slices"
	"strings"
	"testing"

	"jobshop/api"
	"jobshop/isa"
)

// numbers are all operation codes, the numbers beside them, and some that are far away.
func numbers() []int {
	all := far()
	for op := -300; op <= 600; op++ {
		all = append(all, op)
	}
	return all
}

// inOrder returns the operation codes of the chapter in ascending order.
func inOrder() []int {
	return slices.Sorted(maps.Keys(known))
}

// TestChapter checks the expectations themselves.
func TestChapter(t *testing.T) {
	if len(known) != 97 || len(mnemonics) != 97 || len(extensions) != 32 {
		t.Fatalf("%d operation codes, %d mnemonics, %d extended ones", len(known), len(mnemonics), len(extensions))
	}
	for op, in := range known {
		if in.length() != wantLength(op) {
			t.Errorf("%s: %d bytes and %d", in.name, in.length(), wantLength(op))
		}
	}
}

// TestLength is the first part of P8.1.
func TestLength(t *testing.T) {
	for _, op := range numbers() {
		if got := isa.Length(op); got != wantLength(op) {
			t.Errorf("Length of %d = %d, want %d", op, got, wantLength(op))
		}
	}
}

// TestLengthEnds has the ends of the ranges of the lengths (P8.1).
func TestLengthEnds(t *testing.T) {
	for _, r := range []struct{ op, want int }{{-1, 0}, {0, 2}, {63, 2}, {64, 4}, {127, 4}, {128, 4}, {191, 4}, {192, 6}, {255, 6}, {256, 0}} {
		if got := isa.Length(r.op); got != r.want {
			t.Errorf("Length of %d = %d, want %d", r.op, got, r.want)
		}
	}
}

// TestForm is the second part of P8.1, for every operation code and others.
func TestForm(t *testing.T) {
	for _, op := range numbers() {
		in, exists := known[op]
		if form, ok := isa.Form(op); form != in.format.form || ok != exists {
			t.Errorf("Form of %d = %d, %v, want %d, %v", op, form, ok, in.format.form, exists)
		}
	}
}

// TestName is the first part of P8.4, for every operation code and others.
func TestName(t *testing.T) {
	for _, op := range numbers() {
		if got := isa.Name(op); got != known[op].name {
			t.Errorf("Name of %d = %q, want %q", op, got, known[op].name)
		}
	}
}

// TestPrivileged is the last part of P8.4, for every operation code and others.
func TestPrivileged(t *testing.T) {
	count := 0
	for _, op := range numbers() {
		got := isa.Privileged(op)
		if got != known[op].privileged {
			t.Errorf("Privileged of %d = %v", op, got)
		}
		if got {
			count++
		}
	}
	if count != 8 {
		t.Errorf("%d privileged instructions", count)
	}
}

// TestOps is the part of P8.4 about Ops.
func TestOps(t *testing.T) {
	if got := isa.Ops(); !slices.Equal(got, inOrder()) {
		t.Errorf("Ops = %v, want %v", got, inOrder())
	}
}

// valid are valid instructions: for each operation code the bases, and these with each value of each field.
func valid() []api.Ins {
	var all []api.Ins
	for _, op := range inOrder() {
		in := known[op]
		for _, base := range in.bases() {
			all = append(all, base)
			for _, letter := range in.fields() {
				for _, v := range inside(in.max(letter)) {
					all = append(all, with(base, letter, v))
				}
			}
		}
	}
	return all
}

// TestValid is P8.2 for valid instructions.
func TestValid(t *testing.T) {
	for _, i := range valid() {
		if err := isa.Check(i); err != api.OK {
			t.Errorf("Check of %s = %d", text(i), err)
		}
		if b, err := isa.Encode(i); toHex(b) != wantEncode(i) || err != api.OK {
			t.Errorf("Encode of %s = %X, %d, want %s", text(i), b, err, wantEncode(i))
		}
	}
}

// TestValidInFull has every value of every field of some instructions (P8.2).
func TestValidInFull(t *testing.T) {
	for _, op := range []int{0x04, 0x1A, 0x0A, 0x58, 0x90, 0x92, 0x9C, 0xD2, 0xF8} {
		in := known[op]
		for _, base := range in.bases() {
			for _, letter := range in.fields() {
				for v := range in.max(letter) + 1 {
					i := with(base, letter, v)
					if b, err := isa.Encode(i); toHex(b) != wantEncode(i) || err != api.OK {
						t.Errorf("Encode of %s = %X, %d, want %s", text(i), b, err, wantEncode(i))
					}
				}
			}
		}
	}
}

func checkRefused(t *testing.T, i api.Ins, want api.Errno) {
	t.Helper()
	if err := isa.Check(i); err != want {
		t.Errorf("Check of %s = %d, want %d", text(i), err, want)
	}
	if b, err := isa.Encode(i); len(b) != 0 || err != want {
		t.Errorf("Encode of %s = %X, %d, want no bytes and %d", text(i), b, err, want)
	}
}

// TestOutOfRange has each field of each instruction out of its range (P8.2).
func TestOutOfRange(t *testing.T) {
	for _, in := range known {
		for _, base := range in.bases() {
			for _, letter := range in.fields() {
				for _, v := range outside(in.max(letter)) {
					checkRefused(t, with(base, letter, v), api.ErrRange)
				}
			}
		}
	}
}

// TestForeignField has each field that the instruction does not have (P8.2).
func TestForeignField(t *testing.T) {
	for _, in := range known {
		for _, base := range in.bases() {
			for _, letter := range letters {
				if in.has(letter) {
					continue
				}
				for _, v := range append(outside(15), 1, 2, 8, 15, 16, 255, 256, 4095) {
					checkRefused(t, with(base, letter, v), api.ErrRange)
				}
			}
		}
	}
}

// TestSeveralFields has two fields that are wrong in ways that could cancel each other out (P8.2).
func TestSeveralFields(t *testing.T) {
	for _, in := range known {
		for _, base := range in.bases() {
			for _, one := range letters {
				for _, other := range letters {
					if one == other {
						continue
					}
					checkRefused(t, with(with(base, one, -1), other, 1<<12), api.ErrRange)
					checkRefused(t, with(with(base, one, 1<<12), other, -1<<12), api.ErrRange)
				}
			}
		}
	}
}

// TestLengthFields has L1, which has two ranges (P8.2).
func TestLengthFields(t *testing.T) {
	mvc, zap := api.Ins{Op: 0xD2, Form: api.FormSS}, api.Ins{Op: 0xF8, Form: api.FormSS2}
	rows := []struct {
		i    api.Ins
		want api.Errno
	}{
		{with(mvc, 'l', 15), api.OK}, {with(mvc, 'l', 16), api.OK}, {with(mvc, 'l', 255), api.OK},
		{with(mvc, 'l', 256), api.ErrRange}, {with(mvc, 'l', -1), api.ErrRange}, {with(mvc, 'm', 1), api.ErrRange},
		{with(zap, 'l', 15), api.OK}, {with(zap, 'm', 15), api.OK},
		{with(zap, 'l', 16), api.ErrRange}, {with(zap, 'm', 16), api.ErrRange},
		{with(zap, 'l', -1), api.ErrRange}, {with(zap, 'm', -1), api.ErrRange},
	}
	for _, r := range rows {
		if err := isa.Check(r.i); err != r.want {
			t.Errorf("Check of %s = %d, want %d", text(r.i), err, r.want)
		}
	}
}

// forms are all formats, the numbers beside them, and some that are far away.
func forms() []int {
	all := append(far(), 255, 256)
	for form := -12; form <= 40; form++ {
		all = append(all, form)
	}
	return all
}

// TestOtherForm gives each instruction each format that it does not have, with fields that would be valid and with others (P8.2, the order of the codes).
func TestOtherForm(t *testing.T) {
	for _, in := range known {
		for _, base := range in.bases() {
			for _, form := range forms() {
				if form == in.format.form {
					continue
				}
				i := base
				i.Form = form
				checkRefused(t, i, api.ErrOp)
				for _, letter := range letters {
					checkRefused(t, with(i, letter, -1), api.ErrOp)
					checkRefused(t, with(i, letter, 4096), api.ErrOp)
				}
			}
		}
	}
}

// TestNoOp has the operation codes that do not exist, with all formats and fields (P8.2).
func TestNoOp(t *testing.T) {
	for _, op := range numbers() {
		if _, exists := known[op]; exists {
			continue
		}
		for _, form := range forms() {
			i := api.Ins{Op: op, Form: form}
			checkRefused(t, i, api.ErrOp)
			for _, letter := range letters {
				checkRefused(t, with(i, letter, 1), api.ErrOp)
				checkRefused(t, with(i, letter, -1), api.ErrOp)
			}
		}
	}
}

func checkDecode(t *testing.T, b []byte) {
	t.Helper()
	want, wantOK := wantDecode(toHex(b))
	if i, ok := isa.Decode(b); i != want || ok != wantOK {
		t.Errorf("Decode of % X = %s, %v, want %s, %v", b, text(i), ok, text(want), wantOK)
	}
}

// tails are bytes that may follow an operation code, with different digits at all places.
func tails() [][]byte {
	return [][]byte{
		{0x00, 0x00, 0x00, 0x00, 0x00},
		{0xFF, 0xFF, 0xFF, 0xFF, 0xFF},
		{0x12, 0x34, 0x56, 0x78, 0x9A},
		{0xED, 0xCB, 0xA9, 0x87, 0x65},
	}
}

// TestDecode gives Decode every operation code, existing or not, and every byte at every place behind it (P8.3).
func TestDecode(t *testing.T) {
	for op := range 256 {
		for _, tail := range tails() {
			for place := range tail {
				for x := range 256 {
					b := append([]byte{byte(op)}, tail...)
					b[1+place] = byte(x)
					checkDecode(t, b)
				}
			}
		}
	}
}

// TestDecodeLength gives Decode sequences of many lengths with every operation code (P8.3).
func TestDecodeLength(t *testing.T) {
	for op := range 256 {
		for _, tail := range tails() {
			long := append([]byte{byte(op)}, slices.Repeat(tail, 60)...)
			for _, n := range []int{1, 2, 3, 4, 5, 6, 7, 8, 9, 12, 16, 17, 33, 255, 256, 257, 258, 260, 300} {
				checkDecode(t, long[:n])
				checkDecode(t, slices.Clone(long[:n]))
			}
		}
	}
	for _, b := range [][]byte{nil, {}} {
		if i, ok := isa.Decode(b); i != (api.Ins{}) || ok {
			t.Errorf("Decode of no bytes = %s, %v", text(i), ok)
		}
	}
}

// TestDecodeShort has each instruction without its last byte, with it, and with one byte behind it (P8.3).
func TestDecodeShort(t *testing.T) {
	for _, in := range known {
		for _, base := range in.bases() {
			b, _ := isa.Encode(base)
			if i, ok := isa.Decode(b[:len(b)-1]); i != (api.Ins{}) || ok {
				t.Errorf("Decode of % X = %s, %v", b[:len(b)-1], text(i), ok)
			}
			for _, after := range [][]byte{{}, {0}, {0xFF}} {
				if i, ok := isa.Decode(append(slices.Clone(b), after...)); i != base || !ok {
					t.Errorf("Decode of % X and % X = %s, %v, want %s", b, after, text(i), ok, text(base))
				}
			}
		}
	}
}

// TestDecodeIgnored has the bits that no field uses (P8.3).
func TestDecodeIgnored(t *testing.T) {
	for x := range 256 {
		want := api.Ins{Op: 0x04, Form: api.FormRR1, R1: x >> 4}
		if i, ok := isa.Decode([]byte{0x04, byte(x)}); i != want || !ok {
			t.Errorf("Decode of 04 %02X = %s, %v", x, text(i), ok)
		}
		for op, in := range known {
			if in.format.form != api.FormS {
				continue
			}
			want := api.Ins{Op: op, Form: api.FormS, B1: 0xA, D1: 0xBCD}
			if i, ok := isa.Decode([]byte{byte(op), byte(x), 0xAB, 0xCD}); i != want || !ok {
				t.Errorf("Decode of %02X %02X AB CD = %s, %v", op, x, text(i), ok)
			}
		}
	}
}

func checkName(t *testing.T, name string) {
	t.Helper()
	code, exists := mnemonics[name]
	if op, ok := isa.Find(name); op != code || ok != exists {
		t.Errorf("Find of %q = %d, %v, want %d, %v", name, op, ok, code, exists)
	}
	want := extensions[name]
	if mask, reg, ok := isa.Mask(name); mask != want.mask || reg != want.reg || ok != want.ok {
		t.Errorf("Mask of %q = %d, %v, %v, want %+v", name, mask, reg, ok, want)
	}
}

// names are all mnemonics and extended mnemonics.
func names() []string {
	return append(slices.Sorted(maps.Keys(mnemonics)), slices.Sorted(maps.Keys(extensions))...)
}

// TestNames is P8.4 for Find and P8.5 for all names that there are.
func TestNames(t *testing.T) {
	for name, op := range mnemonics {
		if got, ok := isa.Find(name); got != op || !ok {
			t.Errorf("Find of %q = %d, %v, want %d", name, got, ok, op)
		}
		if mask, reg, ok := isa.Mask(name); mask != 0 || reg || ok {
			t.Errorf("Mask of %q = %d, %v, %v", name, mask, reg, ok)
		}
	}
	for name, want := range extensions {
		if mask, reg, ok := isa.Mask(name); mask != want.mask || reg != want.reg || !ok {
			t.Errorf("Mask of %q = %d, %v, %v, want %+v", name, mask, reg, ok, want)
		}
		if op, ok := isa.Find(name); op != 0 || ok {
			t.Errorf("Find of %q = %d, %v", name, op, ok)
		}
	}
}

// TestShortNames has all names of up to four capital letters (P8.4, P8.5).
func TestShortNames(t *testing.T) {
	names := []string{""}
	for range 5 {
		var longer []string
		for _, name := range names {
			checkName(t, name)
			for letter := 'A'; letter <= 'Z' && len(name) < 4; letter++ {
				longer = append(longer, name+string(letter))
			}
		}
		names = longer
	}
}

// TestAlmostNames has every name with a byte more, a byte less, another byte, and in small letters (P8.4, P8.5).
func TestAlmostNames(t *testing.T) {
	for _, name := range names() {
		checkName(t, strings.ToLower(name))
		checkName(t, name[:1]+strings.ToLower(name[1:]))
		for x := range 256 {
			for at := range len(name) + 1 {
				checkName(t, name[:at]+string([]byte{byte(x)})+name[at:])
			}
			for at := range name {
				checkName(t, name[:at]+string([]byte{byte(x)})+name[at+1:])
			}
		}
		for at := range name {
			checkName(t, name[:at]+name[at+1:])
			checkName(t, name[:at])
			checkName(t, name[at:])
		}
	}
}

// TestPaddedNames has names with bytes before and behind them up to several lengths (P8.4, P8.5).
func TestPaddedNames(t *testing.T) {
	for _, name := range append(names(), "") {
		for _, pad := range []string{" ", "\x00", "R", "|", ",", "\n", "*", "X"} {
			for n := 1; n <= 12; n++ {
				checkName(t, name+strings.Repeat(pad, n))
				checkName(t, strings.Repeat(pad, n)+name)
			}
			checkName(t, pad+name+pad)
		}
		checkName(t, strings.Repeat(name, 2))
		checkName(t, strings.Repeat(name, 100))
	}
}

// TestJoinedNames has two names one after the other, with different bytes between them (P8.4, P8.5).
func TestJoinedNames(t *testing.T) {
	between := []string{"", " ", "  ", ",", ", ", ";", "|", "\n", "\t", "\x00", "/"}
	for _, one := range names() {
		for _, other := range names() {
			for _, s := range between {
				checkName(t, one+s+other)
			}
		}
	}
}
