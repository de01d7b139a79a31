package semver_test

import (
	"errors"
	"math/rand"
	"regexp"
	"strings"
	"testing"

	"solspace/api"
	"solspace/semver"
)

// Promise 5.3: what each word means, by hand.
func TestParseRange(t *testing.T) {
	for text, want := range map[string]string{
		"=1.2.3":  "1.2.3",
		"!1.2.3":  "<1.2.3 || >=1.2.4",
		"<1.2.3":  "<1.2.3",
		"<=1.2.3": "<1.2.4",
		">1.2.3":  ">=1.2.4",
		">=1.2.3": ">=1.2.3",

		"^1.2.3":       ">=1.2.3 <2.0.0",
		"^1.0.0":       ">=1.0.0 <2.0.0",
		"^0.2.3":       ">=0.2.3 <0.3.0",
		"^0.2.0":       ">=0.2.0 <0.3.0",
		"^0.0.3":       "0.0.3",
		"^0.0.0":       "0.0.0",
		"^0.0.999":     "0.0.999",
		"^0.999.5":     ">=0.999.5 <1.0.0",
		"^0.999.999":   "0.999.999",
		"^998.0.0":     ">=998.0.0 <999.0.0",
		"^999.0.0":     ">=999.0.0",
		"^999.1.1":     ">=999.1.1",
		"^999.999.999": "999.999.999",

		"~1.2.3":       ">=1.2.3 <1.3.0",
		"~1.2.0":       ">=1.2.0 <1.3.0",
		"~1.0.0":       ">=1.0.0 <1.1.0",
		"~0.0.0":       "<0.1.0",
		"~0.0.3":       ">=0.0.3 <0.1.0",
		"~0.999.5":     ">=0.999.5 <1.0.0",
		"~1.998.0":     ">=1.998.0 <1.999.0",
		"~1.999.0":     ">=1.999.0 <2.0.0",
		"~1.999.999":   "1.999.999",
		"~999.999.0":   ">=999.999.0",
		"~999.999.999": "999.999.999",

		"any any":                   "any",
		"any none":                  "none",
		"none || any":               "any",
		"none || none":              "none",
		"any 1.0.0":                 "1.0.0",
		"1.0.0 2.0.0":               "none",
		"1.0.0 1.0.0":               "1.0.0",
		">=1.0.0 <2.0.0":            ">=1.0.0 <2.0.0",
		"<2.0.0 >=1.0.0":            ">=1.0.0 <2.0.0",
		">=2.0.0 <2.0.0":            "none",
		">=1.0.0 <3.0.0 !2.0.0 any": ">=1.0.0 <2.0.0 || >=2.0.1 <3.0.0",
		"1.0.0||1.0.1":              ">=1.0.0 <1.0.2",
		"1.0.0||any":                "any",
		"none||1.0.0||none":         "1.0.0",
		"  1.0.0":                   "1.0.0",
		"1.0.0  ":                   "1.0.0",
		" >=1.0.0   <2.0.0 ":        ">=1.0.0 <2.0.0",
		"  1.0.0  ||  2.0.0  ":      "1.0.0 || 2.0.0",
		"1.0.0 ||2.0.0|| 3.0.0":     "1.0.0 || 2.0.0 || 3.0.0",
	} {
		if got := read(t, text).Text(); got != want {
			t.Errorf("%q: %q, want %q", text, got, want)
		}
	}
}

// refused: ParseRange answers the error at that place, and no version.
func refused(t *testing.T, text string, want api.Errno, place int) {
	t.Helper()
	r, err := semver.ParseRange(text)
	a, ok := err.(*api.At)
	if !ok || *a != (api.At{Err: want, Place: place}) || !r.Empty() {
		t.Errorf("ParseRange(%.200q): %q, %#v; want %v at %d", text, r.Text(), err, want, place)
	}
}

// Promise 5.3: a piece without words, at its end.
func TestNoWords(t *testing.T) {
	for text, place := range map[string]int{
		"":                     0,
		" ":                    1,
		"   ":                  3,
		"||":                   0,
		" ||":                  1,
		"|| 1.0.0":             0,
		"  || 1.0.0":           2,
		"1.0.0 ||":             8,
		"1.0.0||":              7,
		"1.0.0 ||  ":           10,
		"1.0.0 || || 2.0.0":    9,
		"1.0.0 ||   || 2.0.0":  11,
		"1.0.0||||2.0.0":       7,
		"||||":                 0,
		"any || none ||":       14,
		"any || ||x":           7,
		"any ||  || 1000.0.0 ": 8,
	} {
		refused(t, text, api.ErrForm, place)
	}
}

// Promise 5.3: words that are none, each at its first byte.
func TestWrongWords(t *testing.T) {
	words := map[string]api.Errno{
		"ANY": api.ErrForm, "Any": api.ErrForm, "anyx": api.ErrForm, "=any": api.ErrForm, "!none": api.ErrForm, "nonenone": api.ErrForm,
		"x": api.ErrForm, "1": api.ErrForm, "1.0": api.ErrForm, "1.0.0.0": api.ErrForm, "01.0.0": api.ErrForm, "-1.0.0": api.ErrForm,
		"1.0.0|": api.ErrForm, "|1.0.0": api.ErrForm, "|": api.ErrForm, "1.0.0,": api.ErrForm, "1.0.0=": api.ErrForm, "1.0.0>=2.0.0": api.ErrForm,
		"1.0.0\t": api.ErrForm, "\t1.0.0": api.ErrForm, "1.0.0\n": api.ErrForm, "any\tany": api.ErrForm, "\u00a01.0.0": api.ErrForm,
		"=": api.ErrForm, "!": api.ErrForm, "<": api.ErrForm, "<=": api.ErrForm, ">": api.ErrForm, ">=": api.ErrForm, "^": api.ErrForm, "~": api.ErrForm,
		"=x": api.ErrForm, "!1.0": api.ErrForm, "^01.0.0": api.ErrForm, "~1.0.x": api.ErrForm, ">=-1.0.0": api.ErrForm, "*1.0.0": api.ErrForm,
		"9223372036854775808.0.0": api.ErrForm, "<9223372036854775808.0.0": api.ErrForm,
		// What is no sign is the version's, ahead of a part that is too great.
		"*1000.0.0": api.ErrForm, "-1000.0.0": api.ErrForm, "v1000.0.0": api.ErrForm, "=|1000.0.0": api.ErrForm, "<\t1000.0.0": api.ErrForm,

		"==1.0.0": api.ErrForm, "=>1.0.0": api.ErrForm, "=<1.0.0": api.ErrForm, "<<1.0.0": api.ErrForm, ">>1.0.0": api.ErrForm, "<>1.0.0": api.ErrForm,
		"!!1.0.0": api.ErrForm, "!=1.0.0": api.ErrForm, "=!1.0.0": api.ErrForm, "^^1.0.0": api.ErrForm, "~~1.0.0": api.ErrForm, "^=1.0.0": api.ErrForm,
		"~>1.0.0": api.ErrForm, ">~1.0.0": api.ErrForm, "<==1.0.0": api.ErrForm, ">==1.0.0": api.ErrForm, "^~1.0.0": api.ErrForm, "!^1.0.0": api.ErrForm,

		"1000.0.0": api.ErrRange, "1.0.1000": api.ErrRange, "=1000.0.0": api.ErrRange, "!0.1000.0": api.ErrRange, "<0.0.1000": api.ErrRange,
		"<=1000.0.0": api.ErrRange, ">1000.0.0": api.ErrRange, ">=1000.0.0": api.ErrRange, "^1000.0.0": api.ErrRange, "~0.1000.0": api.ErrRange,
		// The version ahead of the signs.
		"=>1000.0.0": api.ErrRange, "==0.0.1000": api.ErrRange, "!=9223372036854775807.0.0": api.ErrRange, "^~1000.x.0": api.ErrRange, "<>0.1000.x": api.ErrRange,
	}
	for word, want := range words {
		refused(t, word, want, 0)
		refused(t, "   "+word, want, 3)
		refused(t, word+" ", want, 0)
		refused(t, "any  "+word+" none", want, 5)
		refused(t, "1.0.0 || <2.0.0 "+word, want, 16)
		refused(t, "none|| "+word+" ||any", want, 7)
		refused(t, "none "+word, want, 5)
	}
}

// Promise 5.3 with P3: of several words and pieces the first one's error, each wholly ahead of the next one.
func TestFirstWrong(t *testing.T) {
	refused(t, "x 1000.0.0", api.ErrForm, 0)
	refused(t, "1000.0.0 x", api.ErrRange, 0)
	refused(t, "any =>1.0.0 1000.0.0", api.ErrForm, 4)
	refused(t, "any 1000.0.0 || ", api.ErrRange, 4)
	refused(t, "=>1.0.0 ||", api.ErrForm, 0)
	refused(t, " || 1000.0.0", api.ErrForm, 1)
	refused(t, "1.0.0 || 1000.0.0 || x || ", api.ErrRange, 9)
}

// Promise 5.3: more than 1,000 bytes, ahead of all else, without a place.
func TestTooLong(t *testing.T) {
	if got := read(t, strings.Repeat("any ", 250)).Text(); got != "any" {
		t.Errorf("1,000 bytes: %q", got)
	}
	if got := read(t, "1.0.0"+strings.Repeat(" ", 995)).Text(); got != "1.0.0" {
		t.Errorf("1,000 bytes, most of them blanks: %q", got)
	}
	refused(t, strings.Repeat(" ", 1000), api.ErrForm, 1000)
	refused(t, strings.Repeat("x", 1000), api.ErrForm, 0)
	refused(t, strings.Repeat(" ", 992)+"1000.0.0", api.ErrRange, 992)
	long := strings.Repeat(" ", 2000)
	for _, text := range []string{strings.Repeat("any ", 250) + "a", "1.0.0" + long, long, "x" + long, "1000.0.0" + long, strings.Repeat("||", 501)} {
		if r, err := semver.ParseRange(text); err != error(api.ErrLimit) || !r.Empty() {
			t.Errorf("%d bytes: %q, %#v; want ErrLimit", len(text), r.Text(), err)
		}
	}
}

var (
	wordsOf = regexp.MustCompile(`[^ ]+`)
	signsOf = regexp.MustCompile(`^[=!<>^~]*`)
)

// readRange is ParseRange (5.3) by other means: a table of the versions that are asked for.
func readRange(text string) (out table, e api.Errno, place int) {
	at := 0
	for _, piece := range strings.Split(text, "||") {
		words := wordsOf.FindAllStringIndex(piece, -1)
		if words == nil {
			return table{}, api.ErrForm, at + len(piece)
		}
		one := table{}.not()
		for _, w := range words {
			f, e := readWord(piece[w[0]:w[1]])
			if e != api.OK {
				return table{}, e, at + w[0]
			}
			one = one.and(f)
		}
		out = out.or(one)
		at += len(piece) + 2
	}
	return out, api.OK, 0
}

func readWord(word string) (table, api.Errno) {
	if word == "any" || word == "none" {
		return tableOf(func(version) bool { return word == "any" }), api.OK
	}
	sign := signsOf.FindString(word)
	v, e := readVersion(word[len(sign):])
	if e != api.OK {
		return table{}, e
	}
	for _, s := range signs {
		if s == sign {
			return tableOf(meant(sign, v)), api.OK
		}
	}
	return table{}, api.ErrForm
}

// Promise 5.3: texts that are nearly ranges.
func TestParseRangeDrawn(t *testing.T) {
	bits := []string{"any", "none", "1.0.0", "0.0.0", "0.2.999", "999.999.999", "2.1.0", "1.998.2", "1.0.1000", "1.0", "01.0.0", "=", "!", "<", "<=", ">", ">=", "^", "~", " ", " ", " ", " ", "  ", "||", " || ", "|", "\t"}
	r := rand.New(rand.NewSource(3))
	seen := map[api.Errno]int{}
	for range 40_000 {
		text := ""
		for range 1 + r.Intn(9) {
			text += bits[r.Intn(len(bits))]
		}
		want, e, place := readRange(text)
		seen[e]++
		if e != api.OK {
			refused(t, text, e, place)
		} else {
			check(t, text, read(t, text), want)
		}
	}
	for _, e := range []api.Errno{api.OK, api.ErrForm, api.ErrRange} {
		if seen[e] < 500 {
			t.Errorf("only %d texts with %v", seen[e], e)
		}
	}
}

func FuzzParseRange(f *testing.F) {
	for _, text := range []string{"", "any", "^1.2.0 !1.3.0", ">=1.0.0 <2.0.0 || 3.0.0", "=>1.0.0", "1.0.0 ||", "||||", "~0.999.5", "\xff"} {
		f.Add(text)
	}
	f.Fuzz(func(t *testing.T, text string) {
		r, err := semver.ParseRange(text)
		var a *api.At
		switch {
		case len(text) > 1000:
			if err != error(api.ErrLimit) {
				t.Fatalf("%d bytes: %v", len(text), err)
			}
		case err == nil:
			if again, err := semver.ParseRange(r.Text()); len(r.Text()) <= 1000 && (err != nil || !again.Same(r)) {
				t.Fatalf("%q: %q is read as %q, %v", text, r.Text(), again.Text(), err)
			}
		case !errors.As(err, &a) || a.Place < 0 || a.Place > len(text) || !r.Empty():
			t.Fatalf("%q: %q, %v", text, r.Text(), err)
		}
	})
}
