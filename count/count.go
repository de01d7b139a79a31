// Package count: natural numbers of any size.
package count

import (
	"math"
	"slices"
	"strconv"

	"solspace/api"
)

// A power of ten, so that texts are read and written digit by digit; a product
// of two digits, with what is carried, fits into 64 bits.
const (
	base  = 1_000_000_000
	width = 9 // decimal digits of one digit
)

// A digit times 2^mostShift, with what is carried, fits into 64 bits.
const (
	mostTimes = 1000
	mostShift = 30
)

// Nat is a natural number, which never changes; its zero value is 0.
type Nat struct {
	// The least digit first, the last one not 0: each number has one form.
	digits []uint64
}

// Of is an int's, of one below 0: 0.
func Of(n int) Nat {
	var out []uint64
	for ; n > 0; n /= base {
		out = append(out, uint64(n%base))
	}
	return Nat{out}
}

// Zero says whether it is 0.
func (a Nat) Zero() bool { return len(a.digits) == 0 }

// Cmp is -1, 0 or 1: below, like, above another one.
func (a Nat) Cmp(b Nat) int {
	n := max(len(a.digits), len(b.digits))
	for i := range n {
		x, y := a.digit(n-1-i), b.digit(n-1-i)
		if x < y {
			return -1
		}
		if x > y {
			return 1
		}
	}
	return 0
}

// Add is a sum.
func (a Nat) Add(b Nat) Nat {
	n := max(len(a.digits), len(b.digits)) + 1
	out := make([]uint64, n)
	carry := uint64(0)
	for i := range n {
		sum := a.digit(i) + b.digit(i) + carry
		out[i], carry = sum%base, sum/base
	}
	return trimmed(out)
}

// Sub is a difference; ErrRange: it would be below 0.
func (a Nat) Sub(b Nat) (Nat, error) {
	if a.Cmp(b) < 0 {
		return Nat{}, api.ErrRange
	}
	n := len(a.digits)
	out := make([]uint64, n)
	borrow := uint64(0)
	for i := range n {
		have, need := a.digit(i), b.digit(i)+borrow
		borrow = 0
		if have < need {
			have, borrow = have+base, 1
		}
		out[i] = have - need
	}
	return trimmed(out), nil
}

// Mul is a product.
func (a Nat) Mul(b Nat) Nat {
	n, m := len(a.digits), len(b.digits)
	out := make([]uint64, n+m)
	for i := range n {
		carry := uint64(0)
		for j := range m {
			sum := out[i+j] + a.digits[i]*b.digits[j] + carry
			out[i+j], carry = sum%base, sum/base
		}
		out[i+m] = carry
	}
	return trimmed(out)
}

// Double is it times 2, so many times (at most 1000).
func (a Nat) Double(times int) Nat {
	out := Nat{slices.Clone(a.digits)} // an answer shares no memory with what it is made of
	for left := min(times, mostTimes); left > 0; left -= mostShift {
		out = out.shifted(min(left, mostShift))
	}
	return out
}

// Text is decimal.
func (a Nat) Text() string {
	if a.Zero() {
		return "0"
	}
	last := len(a.digits) - 1
	out := strconv.AppendUint(nil, a.digits[last], 10)
	for i := range last {
		// The base on top keeps the noughts that stand ahead within a digit.
		padded := strconv.FormatUint(base+a.digits[last-1-i], 10)
		out = append(out, padded[1:]...)
	}
	return string(out)
}

// Parse reads what Text writes, of up to MaxDigits digits.
func Parse(text string) (Nat, error) {
	if !formed(text) {
		return Nat{}, api.ErrForm
	}
	if len(text) > api.MaxDigits {
		return Nat{}, api.ErrLimit
	}
	n := (len(text) + width - 1) / width
	out := make([]uint64, n)
	for i := range n {
		end := len(text) - i*width
		out[i] = value(text[max(end-width, 0):end])
	}
	return trimmed(out), nil
}

// Fits is the int that it is, if there is one.
func (a Nat) Fits() (int, bool) {
	if a.Cmp(Of(math.MaxInt)) > 0 {
		return 0, false
	}
	n := len(a.digits)
	out := 0
	for i := range n {
		out = out*base + int(a.digits[n-1-i])
	}
	return out, true
}

// digit is the i-th one, the least first; beyond the last one all are 0.
func (a Nat) digit(i int) uint64 {
	if i < len(a.digits) {
		return a.digits[i]
	}
	return 0
}

// shifted is it times 2^times, for times up to mostShift.
func (a Nat) shifted(times int) Nat {
	n := len(a.digits)
	out := make([]uint64, n+2) // 2^mostShift is above base: two digits more
	carry := uint64(0)
	for i := range n + 2 {
		sum := a.digit(i)<<times + carry
		out[i], carry = sum%base, sum/base
	}
	return trimmed(out)
}

// trimmed is the number of these digits, which it keeps.
func trimmed(digits []uint64) Nat {
	n := len(digits)
	for n > 0 && digits[n-1] == 0 {
		n--
	}
	if n == 0 {
		return Nat{}
	}
	return Nat{digits[:n]}
}

// formed says whether a text is a decimal number without a nought ahead.
func formed(text string) bool {
	if text == "" || text[0] == '0' && len(text) > 1 {
		return false
	}
	for i := range len(text) {
		if text[i] < '0' || text[i] > '9' {
			return false
		}
	}
	return true
}

// value is that of up to width decimal digits.
func value(text string) uint64 {
	out := uint64(0)
	for i := range len(text) {
		out = out*10 + uint64(text[i]-'0')
	}
	return out
}
