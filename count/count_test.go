package count_test

import (
	"errors"
	"math"
	"math/big"
	"strings"
	"testing"

	"solspace/api"
	"solspace/count"
)

// The heads of the chapter: another one does not build.
var (
	_ func(int) count.Nat                     = count.Of
	_ func(count.Nat) bool                    = count.Nat.Zero
	_ func(count.Nat, count.Nat) int          = count.Nat.Cmp
	_ func(count.Nat, count.Nat) count.Nat    = count.Nat.Add
	_ func(_, _ count.Nat) (count.Nat, error) = count.Nat.Sub
	_ func(count.Nat, count.Nat) count.Nat    = count.Nat.Mul
	_ func(count.Nat, int) count.Nat          = count.Nat.Double
	_ func(count.Nat) string                  = count.Nat.Text
	_ func(string) (count.Nat, error)         = count.Parse
	_ func(count.Nat) (int, bool)             = count.Nat.Fits
)

// powers: 2^k for k around the widths of words, of digits and far above them.
func powers() []*big.Int {
	var out []*big.Int
	for _, k := range []uint{0, 1, 3, 8, 16, 29, 30, 31, 32, 33, 59, 60, 62, 63, 64, 65, 127, 128, 200, 331} {
		out = append(out, new(big.Int).Lsh(big.NewInt(1), k))
	}
	for _, k := range []int64{1, 8, 9, 10, 17, 18, 19, 27, 36, 54, 72, 98} {
		out = append(out, new(big.Int).Exp(big.NewInt(10), big.NewInt(k), nil))
	}
	return out
}

// samples: 0, small ones, and the powers with their neighbours.
func samples() []*big.Int {
	out := []*big.Int{big.NewInt(0), big.NewInt(7), big.NewInt(1234567890123456789)}
	for _, p := range powers() {
		for d := int64(-1); d <= 1; d++ {
			out = append(out, new(big.Int).Add(p, big.NewInt(d)))
		}
	}
	out = append(out, new(big.Int).Sub(new(big.Int).Exp(big.NewInt(10), big.NewInt(100), nil), big.NewInt(1)))
	return out
}

func parsed(t *testing.T, text string) count.Nat {
	t.Helper()
	a, err := count.Parse(text)
	if err != nil {
		t.Fatalf("Parse(%q): %v", text, err)
	}
	return a
}

func same(t *testing.T, what string, got count.Nat, want *big.Int) {
	t.Helper()
	if got.Text() != want.String() {
		t.Errorf("%s: %s, want %s", what, got.Text(), want)
	}
	if got.Zero() != (want.Sign() == 0) {
		t.Errorf("%s: Zero: %v", what, got.Zero())
	}
}

// 1.1: Of.
func TestOf(t *testing.T) {
	for _, n := range []int{0, 1, 2, 9, 10, 999_999_999, 1_000_000_000, 1_000_000_001, 1<<32 - 1, 1 << 32, 1<<32 + 1, 1 << 62, math.MaxInt - 1, math.MaxInt} {
		same(t, "Of", count.Of(n), big.NewInt(int64(n)))
	}
	for _, n := range []int{-1, -2, -5, -1_000_000_000, -1 << 32, math.MinInt + 1, math.MinInt} {
		same(t, "Of below 0", count.Of(n), new(big.Int))
		if count.Of(n).Cmp(count.Nat{}) != 0 {
			t.Errorf("Of(%d) is not like the zero value", n)
		}
	}
}

// 1.1: the zero value is 0, with all methods.
func TestZeroValue(t *testing.T) {
	var z count.Nat
	seven := count.Of(7)
	if !z.Zero() || z.Text() != "0" || z.Cmp(z) != 0 || z.Cmp(seven) != -1 || seven.Cmp(z) != 1 {
		t.Error("the zero value is not 0")
	}
	for _, a := range []count.Nat{z, count.Of(0), count.Of(-3), parsed(t, "0"), seven.Mul(z), z.Mul(seven), z.Add(z), z.Double(1000)} {
		if !a.Zero() || a.Text() != "0" || a.Cmp(z) != 0 || z.Cmp(a) != 0 {
			t.Errorf("%s is not like the zero value", a.Text())
		}
		if n, ok := a.Fits(); n != 0 || !ok {
			t.Errorf("Fits of 0: %d %v", n, ok)
		}
	}
	same(t, "7+0", seven.Add(z), big.NewInt(7))
	same(t, "0+7", z.Add(seven), big.NewInt(7))
	d, err := seven.Sub(z)
	if err != nil {
		t.Error(err)
	}
	same(t, "7-0", d, big.NewInt(7))
	d, err = z.Sub(z)
	if err != nil {
		t.Error(err)
	}
	same(t, "0-0", d, new(big.Int))
}

// 1.1: Text and Parse, there and back.
func TestTextParse(t *testing.T) {
	for _, x := range samples() {
		same(t, "Parse", parsed(t, x.String()), x)
	}
	same(t, "noughts within", parsed(t, "1000000000000000000000000001"), new(big.Int).Add(new(big.Int).Exp(big.NewInt(10), big.NewInt(27), nil), big.NewInt(1)))
	for n := 1; n <= api.MaxDigits; n++ {
		for _, text := range []string{strings.Repeat("9", n), "1" + strings.Repeat("0", n-1)} {
			if got := parsed(t, text).Text(); got != text {
				t.Errorf("%s: Text is %s", text, got)
			}
		}
	}
}

// 1.1: Cmp, Add, Mul and Sub of each two.
func TestPairs(t *testing.T) {
	l := samples()
	for _, x := range l {
		for _, y := range l {
			a, b := parsed(t, x.String()), parsed(t, y.String())
			what := x.String() + " and " + y.String()
			if got := a.Cmp(b); got != x.Cmp(y) {
				t.Errorf("Cmp of %s: %d", what, got)
			}
			same(t, "Add of "+what, a.Add(b), new(big.Int).Add(x, y))
			same(t, "Mul of "+what, a.Mul(b), new(big.Int).Mul(x, y))
			checkSub(t, what, a, b, new(big.Int).Sub(x, y))
			// P4: what went in is as it was.
			same(t, "the first of "+what, a, x)
			same(t, "the second of "+what, b, y)
		}
	}
}

// checkSub: with ErrRange the number is 0 (P2), and the error is the Errno itself (P3).
func checkSub(t *testing.T, what string, a, b count.Nat, want *big.Int) {
	t.Helper()
	got, err := a.Sub(b)
	if want.Sign() < 0 {
		if err != error(api.ErrRange) || !got.Zero() {
			t.Errorf("Sub of %s: %s %v, want ErrRange", what, got.Text(), err)
		}
		return
	}
	if err != nil {
		t.Errorf("Sub of %s: %v", what, err)
	}
	same(t, "Sub of "+what, got, want)
}

// 1.1: numbers that no text may tell any more: products of products.
func TestFarAbove(t *testing.T) {
	x, _ := new(big.Int).SetString(strings.Repeat("9", 100), 10)
	a := parsed(t, x.String())
	for range 6 {
		a, x = a.Mul(a), new(big.Int).Mul(x, x)
		same(t, "square", a, x)
		same(t, "one more", a.Add(count.Of(1)), new(big.Int).Add(x, big.NewInt(1)))
		checkSub(t, "a square", a, parsed(t, "1"), new(big.Int).Sub(x, big.NewInt(1)))
		checkSub(t, "a square from 1", parsed(t, "1"), a, big.NewInt(-1))
		checkSub(t, "a square from itself", a, a, new(big.Int))
		if a.Cmp(a.Add(count.Of(1))) != -1 || a.Add(count.Of(1)).Cmp(a) != 1 || a.Cmp(a.Mul(count.Of(1))) != 0 {
			t.Error("Cmp far above")
		}
		if n, ok := a.Fits(); n != 0 || ok {
			t.Errorf("Fits far above: %d %v", n, ok)
		}
	}
}

// 1.1: Double, by each number there is something to say of.
func TestDouble(t *testing.T) {
	times := []int{math.MinInt, -1000, -1, 0, 999, 1000, 1001, 1030, 5000, 1 << 40, math.MaxInt}
	for k := 1; k <= 130; k++ {
		times = append(times, k)
	}
	for _, x := range samples() {
		a := parsed(t, x.String())
		for _, k := range times {
			by := uint(min(max(k, 0), 1000))
			same(t, "Double", a.Double(k), new(big.Int).Lsh(x, by))
		}
		same(t, "what is doubled", a, x)
	}
	far := count.Of(1).Double(1000).Double(1000).Double(1)
	same(t, "doubled again", far, new(big.Int).Lsh(big.NewInt(1), 2001))
}

// 1.1: Parse refuses all other texts; what is of no form is that ahead of being too long (P3).
func TestParseWrong(t *testing.T) {
	form := []string{
		"", "00", "01", "007", "000000000", "-", "-0", "-1", "+", "+1", "+0", "a", "1a", "a1", "1 ", " 1", " ", "1 2", "1\n", "\n", "\t1",
		"1.0", "1,000", "1_000", "1e3", "0x1", "0b1", "1-", "/", ":", "1/", "1:", "\x00", "1\x00", "\xff", "1\xb2", "\u0661", "\uff11", "1\u0662",
		strings.Repeat("0", 100), strings.Repeat("0", 101), "0" + strings.Repeat("1", 99), "0" + strings.Repeat("1", 100), strings.Repeat("0", 5000),
		strings.Repeat("1", 99) + "a", strings.Repeat("1", 100) + "a", strings.Repeat("1", 50) + "-" + strings.Repeat("1", 50), "-" + strings.Repeat("1", 100), strings.Repeat("1", 5000) + " ",
	}
	for _, text := range form {
		refused(t, text, api.ErrForm)
	}
	for _, text := range []string{strings.Repeat("1", 101), "1" + strings.Repeat("0", 100), strings.Repeat("9", 102), strings.Repeat("7", 108), strings.Repeat("3", 20_000)} {
		refused(t, text, api.ErrLimit)
	}
}

// refused: that Errno itself, at no place, and 0 beside it.
func refused(t *testing.T, text string, want api.Errno) {
	t.Helper()
	a, err := count.Parse(text)
	var at *api.At
	if err != error(want) || errors.As(err, &at) || !a.Zero() || a.Text() != "0" {
		t.Errorf("Parse(%.120q): %s %v, want %v", text, a.Text(), err, want)
	}
}

// 1.1: Fits up to 2^63 - 1.
func TestFits(t *testing.T) {
	for _, x := range samples() {
		n, ok := parsed(t, x.String()).Fits()
		if ok != x.IsInt64() || ok && int64(n) != x.Int64() || !ok && n != 0 {
			t.Errorf("Fits of %s: %d %v", x, n, ok)
		}
	}
	if n, ok := parsed(t, "9223372036854775807").Fits(); n != math.MaxInt || !ok {
		t.Errorf("Fits of 2^63-1: %d %v", n, ok)
	}
	if n, ok := parsed(t, "9223372036854775808").Fits(); n != 0 || ok {
		t.Errorf("Fits of 2^63: %d %v", n, ok)
	}
	for _, n := range []int{0, 1, 999_999_999, 1_000_000_000, 1 << 32, math.MaxInt - 1, math.MaxInt} {
		if got, ok := count.Of(n).Fits(); got != n || !ok {
			t.Errorf("Fits of %d: %d %v", n, got, ok)
		}
	}
}

// FuzzParse: whatever the text, Parse answers as the words of 1.1 say (P1).
func FuzzParse(f *testing.F) {
	for _, text := range []string{"", "0", "00", "12345678901234567890", "1-1", "-1", strings.Repeat("1", 101)} {
		f.Add(text)
	}
	f.Fuzz(func(t *testing.T, text string) {
		a, err := count.Parse(text)
		if want := asked(text); api.Tell(err) != want {
			t.Fatalf("Parse(%q): %v, want %v", text, err, want)
		}
		if err == nil && a.Text() != text || err != nil && !a.Zero() {
			t.Fatalf("Parse(%q) is %s", text, a.Text())
		}
	})
}

// asked: the error that 1.1 asks of Parse.
func asked(text string) api.Errno {
	other := strings.ContainsFunc(text, func(r rune) bool { return r < '0' || r > '9' })
	switch {
	case text == "" || other || text != "0" && text[0] == '0':
		return api.ErrForm
	case len(text) > api.MaxDigits:
		return api.ErrLimit
	}
	return api.OK
}
