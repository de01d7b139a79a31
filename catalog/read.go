package catalog

import (
	"iter"
	"strings"

	"solspace/api"
	"solspace/semver"
)

// What a line of each kind begins with.
var words = [...]string{Package: "package", Needs: "needs", Clashes: "clashes", Root: "root"}

// Text writes lines: package N V, needs N V O RANGE, clashes N V O RANGE, root N RANGE.
func (c *Catalog) Text() string {
	var out strings.Builder
	for _, x := range c.Lines() {
		out.WriteString(x.text())
		out.WriteByte('\n')
	}
	return out.String()
}

// text writes a line of a catalog.
func (x Line) text() string {
	out := words[x.Kind] + " " + x.Name
	if x.Kind != Root {
		out += " " + x.Version.Text()
	}
	if x.pair() {
		out += " " + x.Other
	}
	if x.Kind != Package {
		out += " " + x.Range.Text()
	}
	return out
}

// Parse reads what Text writes. Errors are an At at a line's first byte, but ErrLimit: more than MaxText bytes, or MaxLines lines.
func Parse(text string) (*Catalog, error) {
	if len(text) > api.MaxText {
		return nil, api.ErrLimit
	}
	var l []Line
	var starts []int
	for start, s := range lines(text) {
		x, err := ParseLine(s)
		if err != nil {
			return nil, &api.At{Err: api.Tell(err), Place: start}
		}
		l = append(l, x)
		starts = append(starts, start)
	}
	c, err := New(l)
	if at, ok := err.(*api.At); ok {
		return nil, &api.At{Err: at.Err, Place: starts[at.Place]}
	}
	return c, err
}

// ParseLine reads a line (whether it may be is New's to say). Errors in a range are an At at a byte of the range's text.
func ParseLine(s string) (Line, error) {
	word, rest, _ := strings.Cut(s, " ")
	x := Line{Kind: kind(word)}
	if x.Kind == 0 {
		return Line{}, api.ErrForm
	}
	var err error
	x.Name, rest, _ = strings.Cut(rest, " ")
	if x.Kind != Root {
		word, rest, _ = strings.Cut(rest, " ")
		if x.Version, err = semver.Parse(word); err != nil {
			return Line{}, err
		}
	}
	if x.Kind == Package {
		if rest != "" {
			return Line{}, api.ErrForm
		}
		return x, nil
	}
	if x.pair() {
		x.Other, rest, _ = strings.Cut(rest, " ")
	}
	if x.Range, err = semver.ParseRange(rest); err != nil {
		return Line{}, err
	}
	return x, nil
}

// kind is that of lines that begin with a word (0: there is none).
func kind(word string) int {
	for k, w := range words {
		if w == word {
			return k
		}
	}
	return 0
}

// lines are those of a text that are not empty, each with the place of its first byte.
func lines(text string) iter.Seq2[int, string] {
	return func(yield func(int, string) bool) {
		for at := 0; at < len(text); {
			line, _, _ := strings.Cut(text[at:], "\n")
			if line != "" && !yield(at, line) {
				return
			}
			at += len(line) + 1
		}
	}
}
