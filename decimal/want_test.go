package decimal_test

import (
	"encoding/hex"
	"math"
	"math/big"
	"strings"

	"jobshop/api"
)

// The expected results are computed with exact numbers of any size, from the hexadecimal digits of fields as text.

// hx returns the bytes whose hexadecimal digits are those of s, which may have blanks between them.
func hx(s string) []byte {
	b, err := hex.DecodeString(strings.ReplaceAll(s, " ", ""))
	if err != nil {
		panic(err)
	}
	return b
}

func toHex(b []byte) string { return strings.ToUpper(hex.EncodeToString(b)) }

// fit returns the last n characters of s, with zeros on the left if s has fewer.
func fit(s string, n int) string {
	s = strings.Repeat("0", n) + s
	return s[len(s)-n:]
}

// outcome has the results of a call; a call without one of them leaves it zero.
type outcome struct {
	field    string
	cc, code int
}

// exact is the number of a field; zero may be negative.
type exact struct {
	value *big.Int
	neg   bool
}

// known returns the number of the field b, and whether it is valid.
func known(b []byte) (exact, bool) {
	s := toHex(b)
	digits, sign := s[:len(s)-1], s[len(s)-1:]
	if strings.ContainsAny(digits, "ABCDEF") || !strings.Contains("ABCDEF", sign) {
		return exact{}, false
	}
	v, _ := new(big.Int).SetString(digits, 10)
	neg := sign == "B" || sign == "D"
	if neg {
		v.Neg(v)
	}
	return exact{v, neg}, true
}

// numbersOf returns the numbers of the fields, or the code for fields of a wrong length or invalid fields.
func numbersOf(fields ...[]byte) ([]exact, int) {
	var all []exact
	for _, b := range fields {
		if len(b) < 1 || len(b) > 16 {
			return nil, api.CodeSpecific
		}
	}
	for _, b := range fields {
		w, ok := known(b)
		if !ok {
			return nil, api.CodeData
		}
		all = append(all, w)
	}
	return all, 0
}

// wantField returns the result field of n bytes for v, with the given sign, and whether there is an overflow.
func wantField(v *big.Int, neg bool, n int) (string, bool) {
	digits := new(big.Int).Abs(v).String()
	sign := "C"
	if neg {
		sign = "D"
	}
	return fit(digits, 2*n-1) + sign, len(digits) > 2*n-1
}

// wantCC returns the condition code of v.
func wantCC(v *big.Int) int {
	return [3]int{1, 0, 2}[v.Sign()+1]
}

// settle returns the results of Add and the functions like it for v.
func settle(v *big.Int, n int) outcome {
	field, over := wantField(v, v.Sign() < 0, n)
	if over {
		return outcome{field, 3, api.CodeDecOver}
	}
	return outcome{field, wantCC(v), 0}
}

func wantAdd(a, b []byte) outcome {
	w, code := numbersOf(a, b)
	if code != 0 {
		return outcome{code: code}
	}
	return settle(new(big.Int).Add(w[0].value, w[1].value), len(a))
}

func wantSub(a, b []byte) outcome {
	w, code := numbersOf(a, b)
	if code != 0 {
		return outcome{code: code}
	}
	return settle(new(big.Int).Sub(w[0].value, w[1].value), len(a))
}

func wantCompare(a, b []byte) outcome {
	w, code := numbersOf(a, b)
	if code != 0 {
		return outcome{code: code}
	}
	return outcome{cc: [3]int{1, 0, 2}[w[0].value.Cmp(w[1].value)+1]}
}

func wantMultiply(a, b []byte) outcome {
	if len(b) > 8 || len(b) >= len(a) {
		return outcome{code: api.CodeSpecific}
	}
	w, code := numbersOf(a, b)
	if code != 0 {
		return outcome{code: code}
	}
	if toHex(a[:len(b)]) != fit("", 2*len(b)) {
		return outcome{code: api.CodeData}
	}
	field, _ := wantField(new(big.Int).Mul(w[0].value, w[1].value), w[0].neg != w[1].neg, len(a))
	return outcome{field: field}
}

func wantDivide(a, b []byte) outcome {
	if len(b) > 8 || len(b) >= len(a) {
		return outcome{code: api.CodeSpecific}
	}
	w, code := numbersOf(a, b)
	if code != 0 {
		return outcome{code: code}
	}
	if w[1].value.Sign() == 0 {
		return outcome{code: api.CodeDecDivide}
	}
	quotient, remainder := new(big.Int).QuoRem(w[0].value, w[1].value, new(big.Int))
	left, over := wantField(quotient, w[0].neg != w[1].neg, len(a)-len(b))
	if over {
		return outcome{code: api.CodeDecDivide}
	}
	right, _ := wantField(remainder, w[0].neg, len(b))
	return outcome{field: left + right}
}

func wantZap(n int, b []byte) outcome {
	if n < 1 || n > 16 {
		return outcome{code: api.CodeSpecific}
	}
	w, code := numbersOf(b)
	if code != 0 {
		return outcome{code: code}
	}
	return settle(w[0].value, n)
}

// wantShift shifts the digits of the number as text.
func wantShift(a []byte, n, round int) outcome {
	if len(a) < 1 || len(a) > 16 || n < -32 || n > 31 {
		return outcome{code: api.CodeSpecific}
	}
	w, code := numbersOf(a)
	if code != 0 || round < 0 || round > 9 {
		return outcome{code: api.CodeData}
	}
	digits := fit(new(big.Int).Abs(w[0].value).String(), 40) + strings.Repeat("0", max(n, 0))
	rest := digits[:len(digits)-max(-n, 0)]
	v, _ := new(big.Int).SetString(rest, 10)
	if n < 0 && int(digits[len(rest)]-'0')+round >= 10 {
		v.Add(v, big.NewInt(1))
	}
	if w[0].neg {
		v.Neg(v)
	}
	return settle(v, len(a))
}

// wantBinary returns the low 32 bits of v in two's complement, and the code.
func wantBinary(v *big.Int) (uint32, int) {
	low := uint32(new(big.Int).And(v, big.NewInt(math.MaxUint32)).Uint64())
	if v.Cmp(big.NewInt(math.MinInt32)) < 0 || v.Cmp(big.NewInt(math.MaxInt32)) > 0 {
		return low, api.CodeDivide
	}
	return low, 0
}

func wantToBinary(b []byte) (uint32, int) {
	if len(b) != 8 {
		return 0, api.CodeSpecific
	}
	w, code := numbersOf(b)
	if code != 0 {
		return 0, code
	}
	return wantBinary(w[0].value)
}
