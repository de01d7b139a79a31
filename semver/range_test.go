package semver_test

import (
	"math"
	"math/rand"
	"strings"
	"testing"

	"solspace/api"
	"solspace/semver"
)

// The parts of versions in words, and of the versions that are asked for: these
// have each version of a word, those just ahead of it and behind it, and each one at
// which a range of such words begins or ends.
var (
	toldParts  = []int{0, 1, 2, 998, 999}
	askedParts = []int{0, 1, 2, 3, 997, 998, 999}
	asked      = versions(askedParts)
	signs      = []string{"", "=", "!", "<", "<=", ">", ">=", "^", "~"}
)

// versions are all of those parts, rising.
func versions(parts []int) []version {
	var out []version
	for _, a := range parts {
		for _, b := range parts {
			for _, c := range parts {
				out = append(out, version{a, b, c})
			}
		}
	}
	return out
}

// table is a range as plainly as can be: of each version that is asked for whether it has it.
type table [343]bool

func tableOf(has func(version) bool) (out table) {
	for i, v := range asked {
		out[i] = has(v)
	}
	return out
}

func (f table) or(g table) (out table) {
	for i := range out {
		out[i] = f[i] || g[i]
	}
	return out
}

func (f table) and(g table) (out table) {
	for i := range out {
		out[i] = f[i] && g[i]
	}
	return out
}

func (f table) not() (out table) {
	for i := range out {
		out[i] = !f[i]
	}
	return out
}

// text is 5.2's, by the versions alone.
func (f table) text() string {
	if f == (table{}) {
		return "none"
	}
	var pieces []string
	for i := 0; i < len(f); {
		if !f[i] {
			i++
			continue
		}
		from := i
		for i < len(f) && f[i] {
			i++
		}
		pieces = append(pieces, pieceText(from, i))
	}
	return strings.Join(pieces, " || ")
}

// pieceText is that of the versions from one that is asked for up to, without it, another one.
func pieceText(from, to int) string {
	first, last := from == 0, to == len(asked)
	switch {
	case first && last:
		return "any"
	case last && asked[from] == version{999, 999, 999}, !last && behind(asked[from]) == asked[to]:
		return asked[from].Text()
	case last:
		return ">=" + asked[from].Text()
	case first:
		return "<" + asked[to].Text()
	}
	return ">=" + asked[from].Text() + " <" + asked[to].Text()
}

// behind is the next version.
func behind(v version) version {
	switch {
	case v[2] < 999:
		return version{v[0], v[1], v[2] + 1}
	case v[1] < 999:
		return version{v[0], v[1] + 1, 0}
	}
	return version{v[0] + 1, 0, 0}
}

// meant says whether a version is among those of signs and a version.
func meant(sign string, v version) func(version) bool {
	return func(w version) bool {
		c := w.Cmp(v)
		switch sign {
		case "", "=":
			return c == 0
		case "!":
			return c != 0
		case "<":
			return c < 0
		case "<=":
			return c <= 0
		case ">":
			return c > 0
		case ">=":
			return c >= 0
		case "~":
			return c >= 0 && w[0] == v[0] && w[1] == v[1]
		}
		// ^: the parts up to the first one that is not 0 stay as they are.
		for i := range v {
			if w[i] != v[i] {
				return false
			}
			if v[i] != 0 {
				break
			}
		}
		return c >= 0
	}
}

// check holds a range against a table: what it has, what it tells of itself, and what its text is read as.
func check(t *testing.T, what string, r ranges, want table) {
	t.Helper()
	for i, v := range asked {
		if r.Has(v) != want[i] {
			t.Fatalf("%s: Has(%s): %v", what, v.Text(), r.Has(v))
		}
	}
	if r.Empty() != (want == table{}) {
		t.Fatalf("%s: Empty: %v", what, r.Empty())
	}
	if got := r.Text(); got != want.text() {
		t.Fatalf("%s: Text: %q, want %q", what, got, want.text())
	}
	if again, err := semver.ParseRange(r.Text()); err != nil || !again.Same(r) || !r.Same(again) {
		t.Fatalf("%s: %q is read as %q, %v", what, r.Text(), again.Text(), err)
	}
}

// read is a range of a text that must be one.
func read(t *testing.T, text string) ranges {
	t.Helper()
	r, err := semver.ParseRange(text)
	if err != nil {
		t.Fatalf("ParseRange(%q): %v", text, err)
	}
	return r
}

// Promises 5.2 and 5.3: each sign with each version of small parts, and of those at the end.
func TestWords(t *testing.T) {
	for _, v := range versions(toldParts) {
		for _, sign := range signs {
			check(t, sign+v.Text(), read(t, sign+v.Text()), tableOf(meant(sign, v)))
		}
	}
}

// Promise 5.2: the zero value is none, and Any all.
func TestNoneAndAny(t *testing.T) {
	var none ranges
	all := tableOf(func(version) bool { return true })
	check(t, "the zero value", none, table{})
	check(t, "none", read(t, "none"), table{})
	check(t, "Any", semver.Any(), all)
	check(t, "any", read(t, "any"), all)
	check(t, "not none", none.Not(), all)
	check(t, "not any", semver.Any().Not(), table{})
	check(t, "none or none", none.Or(none), table{})
	check(t, "none or any", none.Or(semver.Any()), all)
	check(t, "any or none", semver.Any().Or(none), all)
	check(t, "none and any", none.And(semver.Any()), table{})
	check(t, "any and any", semver.Any().And(semver.Any()), all)
	if !none.Same(read(t, "<0.0.0")) || !read(t, ">999.999.999").Same(none) || none.Same(semver.Any()) {
		t.Error("Same of none")
	}
}

// Promise 5.2: a version with a part below 0 or above MaxPart is in none.
func TestOutside(t *testing.T) {
	five := read(t, "1.0.0")
	all := []ranges{{}, semver.Any(), five, five.Not(), read(t, ">=0.0.0"), read(t, "<=999.999.999"), read(t, "<1.0.0 || >=1.0.1")}
	for _, bad := range []int{-1, -999, -1000, math.MinInt, api.MaxPart + 1, 2000, 1_000_000, math.MaxInt} {
		for place := range 3 {
			for _, v := range versions([]int{0, 1, 5, 999}) {
				v[place] = bad
				for _, r := range all {
					if r.Has(v) || r.Not().Has(v) {
						t.Errorf("%q, or what it hasn't, has %v", r.Text(), v)
					}
				}
			}
		}
	}
}

// drawn is a range that was made of words by Or, And and Not, and its table.
func drawn(t *testing.T, r *rand.Rand, deep int) (ranges, table) {
	if deep == 0 || r.Intn(6) == 0 {
		sign := signs[r.Intn(len(signs))]
		v := version{toldParts[r.Intn(5)], toldParts[r.Intn(5)], toldParts[r.Intn(5)]}
		return read(t, sign+v.Text()), tableOf(meant(sign, v))
	}
	a, f := drawn(t, r, deep-1)
	if r.Intn(4) == 0 {
		return a.Not(), f.not()
	}
	b, g := drawn(t, r, deep-1)
	if r.Intn(3) == 0 {
		return a.And(b), f.and(g)
	}
	return a.Or(b), f.or(g)
}

// Promise 5.2: Or, And, Not, Same; none of them changes what it is asked of.
func TestAlgebra(t *testing.T) {
	r := rand.New(rand.NewSource(2))
	pieces := 0
	for range 1500 {
		a, f := drawn(t, r, r.Intn(6))
		b, g := drawn(t, r, r.Intn(6))
		check(t, "or", a.Or(b), f.or(g))
		check(t, "and", a.And(b), f.and(g))
		check(t, "not", a.Not(), f.not())
		check(t, "what was asked", a, f)
		check(t, "what it was asked with", b, g)
		if a.Same(b) != (f == g) || !a.Same(a) || !a.Or(b).Same(b.Or(a)) || !a.Not().Not().Same(a) {
			t.Fatalf("Same of %q and %q", a.Text(), b.Text())
		}
		pieces = max(pieces, strings.Count(a.Or(b).Text(), "||")+1)
	}
	if pieces < 6 {
		t.Errorf("at most %d pieces", pieces)
	}
}

// Promise 5.2: Text of each kind of piece, by hand.
func TestRangeText(t *testing.T) {
	for text, want := range map[string]string{
		"none":                          "none",
		"any":                           "any",
		"1.2.3":                         "1.2.3",
		"=0.0.0":                        "0.0.0",
		"<=0.0.0":                       "0.0.0",
		"<0.0.1":                        "0.0.0",
		"<0.0.2":                        "<0.0.2",
		"<=0.0.1":                       "<0.0.2",
		"<0.0.0":                        "none",
		">=0.0.0":                       "any",
		">0.0.0":                        ">=0.0.1",
		"999.999.999":                   "999.999.999",
		">=999.999.999":                 "999.999.999",
		">999.999.998":                  "999.999.999",
		">=999.999.998":                 ">=999.999.998",
		">999.999.999":                  "none",
		"<=999.999.999":                 "any",
		"<999.999.999":                  "<999.999.999",
		"!999.999.999":                  "<999.999.999",
		"!0.0.0":                        ">=0.0.1",
		"!0.0.1":                        "0.0.0 || >=0.0.2",
		"!999.999.998":                  "<999.999.998 || 999.999.999",
		"!5.5.5":                        "<5.5.5 || >=5.5.6",
		">1.2.999":                      ">=1.3.0",
		"<=1.999.999":                   "<2.0.0",
		"!1.0.999":                      "<1.0.999 || >=1.1.0",
		"<1.0.0 || >=1.0.0":             "any",
		"1.0.0 || 1.0.1":                ">=1.0.0 <1.0.2",
		"1.0.1 || 1.0.0":                ">=1.0.0 <1.0.2",
		"1.0.999 || 1.1.0":              ">=1.0.999 <1.1.1",
		"1.0.0 || 1.0.2":                "1.0.0 || 1.0.2",
		"3.0.0 || 1.0.0 || 2.0.0":       "1.0.0 || 2.0.0 || 3.0.0",
		"^1.0.0 || ^2.0.0":              ">=1.0.0 <3.0.0",
		"^1.2.0 !1.3.0":                 ">=1.2.0 <1.3.0 || >=1.3.1 <2.0.0",
		">=1.0.0 <2.0.0 || 3.0.0":       ">=1.0.0 <2.0.0 || 3.0.0",
		">=1.0.0 <2.0.0 || 2.0.0":       ">=1.0.0 <2.0.1",
		">=1.0.0 <5.0.0 !2.0.0":         ">=1.0.0 <2.0.0 || >=2.0.1 <5.0.0",
		"<1.0.0 || 2.0.0 || >=3.0.0":    "<1.0.0 || 2.0.0 || >=3.0.0",
		"0.0.0 || 0.0.1 || 999.999.999": "<0.0.2 || 999.999.999",
	} {
		if got := read(t, text).Text(); got != want {
			t.Errorf("%q: %q, want %q", text, got, want)
		}
	}
}

// A range of very many pieces is as any other one.
func TestManyPieces(t *testing.T) {
	even := ranges{}
	for n := 0; n < 1000; n += 2 {
		v := version{7, n / 1000, n % 1000}
		even = even.Or(read(t, v.Text()))
	}
	odd := even.Not().And(read(t, "~7.0.0"))
	for n := range 1000 {
		v := version{7, 0, n}
		if even.Has(v) != (n%2 == 0) || odd.Has(v) != (n%2 == 1) {
			t.Fatalf("%s: %v, %v", v.Text(), even.Has(v), odd.Has(v))
		}
	}
	if got := even.Or(odd).Text(); got != ">=7.0.0 <7.1.0" {
		t.Errorf("both: %q", got)
	}
	if got := strings.Count(even.Not().Text(), "||"); got != 500 {
		t.Errorf("%d times || in what it hasn't", got)
	}
	if !even.And(odd).Empty() || !even.Same(even.Not().Not()) {
		t.Error("And, or Not")
	}
}
