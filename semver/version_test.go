package semver_test

import (
	"math"
	"math/big"
	"math/rand"
	"regexp"
	"strings"
	"testing"

	"solspace/api"
	"solspace/semver"
)

type (
	version = semver.Version
	ranges  = semver.Range
)

// The heads of the chapter: another one does not build.
var (
	_ [3]int                        = version{}
	_ func(_, _ version) int        = version.Cmp
	_ func(version) string          = version.Text
	_ func(string) (version, error) = semver.Parse
	_ func() ranges                 = semver.Any
	_ func(ranges, version) bool    = ranges.Has
	_ func(_, _ ranges) ranges      = ranges.Or
	_ func(_, _ ranges) ranges      = ranges.And
	_ func(ranges) ranges           = ranges.Not
	_ func(_, _ ranges) bool        = ranges.Same
	_ func(ranges) bool             = ranges.Empty
	_ func(ranges) string           = ranges.Text
	_ func(string) (ranges, error)  = semver.ParseRange
)

// Promise 5.1: Cmp.
func TestCmp(t *testing.T) {
	rising := []version{
		{math.MinInt, math.MaxInt, math.MaxInt},
		{-1, 5, 5},
		{0, math.MinInt, 9},
		{0, 0, -1},
		{},
		{0, 0, 1},
		{0, 0, 2},
		{0, 0, 10},
		{0, 0, 999},
		{0, 1, 0},
		{0, 2, 0},
		{0, 10, 0},
		{0, math.MaxInt, math.MinInt},
		{1, 0, 0},
		{1, 0, 1},
		{1, 2, 3},
		{2, 0, 0},
		{10, 0, 0},
		{999, 999, 998},
		{999, 999, 999},
		{999, 999, 1000},
		{math.MaxInt, math.MinInt, math.MinInt},
	}
	for i, v := range rising {
		for j, w := range rising {
			want := 0
			if i < j {
				want = -1
			}
			if i > j {
				want = 1
			}
			if got := v.Cmp(w); got != want {
				t.Errorf("%v.Cmp(%v): %d, want %d", v, w, got, want)
			}
		}
	}
}

// Promise 5.1: Text, of parts that may not be in a range too.
func TestVersionText(t *testing.T) {
	for want, v := range map[string]version{
		"0.0.0":          {},
		"1.2.3":          {1, 2, 3},
		"10.200.999":     {10, 200, 999},
		"999.999.999":    {999, 999, 999},
		"1000.0.12345":   {1000, 0, 12345},
		"-1.0.-20":       {-1, 0, -20},
		"0.2147483647.0": {0, math.MaxInt32, 0},
	} {
		if got := v.Text(); got != want {
			t.Errorf("%v: %q, want %q", v, got, want)
		}
	}
}

// Promise 5.1: what Parse reads.
func TestParse(t *testing.T) {
	for _, v := range []version{{}, {1, 2, 3}, {0, 0, 1}, {0, 10, 0}, {100, 0, 0}, {999, 999, 999}, {999, 0, 998}} {
		if got, err := semver.Parse(v.Text()); got != v || err != nil {
			t.Errorf("Parse(%q): %v, %v", v.Text(), got, err)
		}
	}
}

// Promise 5.1: what Parse refuses: how many pieces ahead of each, then the first piece that is wrong, wholly.
func TestParseRefuses(t *testing.T) {
	form := []string{
		"", ".", "..", "...", "1", "1.2", "1.2.", ".1.2", "1..2", "1.2.3.", ".1.2.3", "1.2.3.4", "1.2.3.4.5",
		"1,2,3", "1.2,3", "a.b.c", "1.2.x", "1.x.3", "x.2.3", "1.2.3x", "1.2.3-4", "v1.2.3", "=1.2.3",
		"01.2.3", "1.02.3", "1.2.03", "00.0.0", "0.0.00", "1.2.000",
		"-1.2.3", "1.-2.3", "1.2.-3", "-0.0.0", "0.0.-0", "+1.2.3", "1.+2.3", "1.2.+3", "--1.0.0", "-.0.0",
		" 1.2.3", "1.2.3 ", "1. 2.3", "1.2 .3", "1.2.3\n", "\t1.2.3", "1.2.3\x00",
		"0x1.0.0", "1_0.0.0", "1e1.0.0", "\u0661.0.0", "\xff.0.0", "1.2.\u00b2",
		"9223372036854775808.0.0", "0.9223372036854775808.0", "0.0.9223372036854775808", "18446744073709551616.0.0",
		"-9223372036854775808.0.0", "0.0." + strings.Repeat("9", 400), "01000.0.0", "-1000.0.0",
		// As many pieces as there must not be, ahead of all that is wrong in one.
		"1000", "1000.0", "1000.0.0.0", "0.0.0.1000", "1000.1000.1000.1000",
		// The first piece that is wrong is told.
		"x.1000.0", "0.x.1000", "x.x.1000", ".1000.0", "01.1000.0", "0.-1.1000",
	}
	for _, text := range form {
		refusedVersion(t, text, api.ErrForm)
	}
	tooGreat := []string{
		"1000.0.0", "0.1000.0", "0.0.1000", "1000.1000.1000", "999.999.1000", "12345.0.0", "0.0.100000000000",
		"9223372036854775807.0.0", "0.9223372036854775807.0", "0.0.9223372036854775807",
		"1000.x.0", "1000.0.x", "0.1000.x", "1000..", "1000.01.0", "0.1000.-1", "1000.9223372036854775808.0",
	}
	for _, text := range tooGreat {
		refusedVersion(t, text, api.ErrRange)
	}
}

// refusedVersion: Parse answers the error without a place, and no version.
func refusedVersion(t *testing.T, text string, want api.Errno) {
	t.Helper()
	if v, err := semver.Parse(text); v != (version{}) || err != error(want) {
		t.Errorf("Parse(%q): %v, %v; want %v", text, v, err, want)
	}
}

var plainNumber = regexp.MustCompile(`^(0|[1-9][0-9]*)$`)

// readVersion is Parse (5.1) by other means.
func readVersion(text string) (version, api.Errno) {
	var out version
	l := strings.Split(text, ".")
	if len(l) != 3 {
		return version{}, api.ErrForm
	}
	for i, s := range l {
		if !plainNumber.MatchString(s) {
			return version{}, api.ErrForm
		}
		n, _ := new(big.Int).SetString(s, 10)
		if !n.IsInt64() {
			return version{}, api.ErrForm
		}
		if n.Int64() > api.MaxPart {
			return version{}, api.ErrRange
		}
		out[i] = int(n.Int64())
	}
	return out, api.OK
}

// Promise 5.1: Parse of texts that are nearly versions.
func TestParseDrawn(t *testing.T) {
	bits := []string{"0", "1", "7", "99", "100", "999", "1000", "9223372036854775807", "9223372036854775808", ".", ".", ".", ".", ".", ".", ".", "-", "+", "x"}
	r := rand.New(rand.NewSource(1))
	seen := map[api.Errno]int{}
	for range 50_000 {
		text := ""
		for range 1 + r.Intn(6) {
			text += bits[r.Intn(len(bits))]
		}
		seen[checkVersion(t, text)]++
	}
	for _, e := range []api.Errno{api.OK, api.ErrForm, api.ErrRange} {
		if seen[e] < 20 {
			t.Errorf("only %d texts with %v", seen[e], e)
		}
	}
}

// checkVersion holds Parse against readVersion.
func checkVersion(t *testing.T, text string) api.Errno {
	t.Helper()
	want, e := readVersion(text)
	got, err := semver.Parse(text)
	if e != api.OK {
		refusedVersion(t, text, e)
	} else if got != want || err != nil || got.Text() != text {
		t.Errorf("Parse(%q): %v, %v; want %v", text, got, err, want)
	}
	return e
}

func FuzzParse(f *testing.F) {
	for _, text := range []string{"1.2.3", "", "1.2", "01.2.3", "1.2.-3", "999.999.1000", "9223372036854775808.0.0"} {
		f.Add(text)
	}
	f.Fuzz(func(t *testing.T, text string) { checkVersion(t, text) })
}
