package semver

import (
	"iter"
	"strconv"
	"strings"

	"solspace/api"
)

// The most bytes of a range's text that is read.
const mostText = 1000

// What a version in a range's text may have ahead.
const marks = "=!<>^~"

// Parse reads what Text writes, parts from 0 to MaxPart. ErrForm: it is none; ErrRange: a part is above MaxPart.
func Parse(text string) (Version, error) {
	var v Version
	if strings.Count(text, ".") != len(v)-1 {
		return Version{}, api.ErrForm
	}
	i := 0
	for _, piece := range pieces(text, ".") {
		n, err := parsePart(piece)
		if err != nil {
			return Version{}, err
		}
		v[i] = n
		i++
	}
	return v, nil
}

// parsePart reads a part. What is read and written again is another text where a nought or a plus stood ahead.
func parsePart(text string) (int, error) {
	n, err := strconv.ParseInt(text, 10, 64)
	if err != nil || n < 0 || strconv.FormatInt(n, 10) != text {
		return 0, api.ErrForm
	}
	if n > api.MaxPart {
		return 0, api.ErrRange
	}
	return int(n), nil
}

// ParseRange reads pieces with || between, each of words with blanks between, all of which must hold: any, none, V, =V, !V, <V, <=V, >V, >=V, ^V (up to the next one whose first part that isn't 0 is greater), ~V (whose second one is). Errors are an At at a byte, but ErrLimit: more than 1,000 bytes.
func ParseRange(text string) (Range, error) {
	if len(text) > mostText {
		return Range{}, api.ErrLimit
	}
	var out Range
	for at, piece := range pieces(text, "||") {
		r, err := parsePiece(piece, at)
		if err != nil {
			return Range{}, err
		}
		out = out.Or(r)
	}
	return out, nil
}

// parsePiece reads words that stand in a text from a place on.
func parsePiece(text string, at int) (Range, error) {
	out, words := Any(), 0
	for i, word := range pieces(text, " ") {
		if word == "" { // blanks at an end, or several
			continue
		}
		words++
		r, err := parseWord(word)
		if err != nil {
			return Range{}, &api.At{Err: api.Tell(err), Place: at + i}
		}
		out = out.And(r)
	}
	if words == 0 {
		return Range{}, &api.At{Err: api.ErrForm, Place: at + len(text)}
	}
	return out, nil
}

// parseWord reads one word.
func parseWord(word string) (Range, error) {
	switch word {
	case "any":
		return Any(), nil
	case "none":
		return Range{}, nil
	}
	text := strings.TrimLeft(word, marks)
	v, err := Parse(text)
	if err != nil {
		return Range{}, err
	}
	return signed(word[:len(word)-len(text)], v)
}

// signed is the range of a version with signs ahead.
func signed(signs string, v Version) (Range, error) {
	n := number(v)
	switch signs {
	case "", "=":
		return row(n, n+1), nil
	case "!":
		return row(n, n+1).Not(), nil
	case "<":
		return row(0, n), nil
	case "<=":
		return row(0, n+1), nil
	case ">":
		return row(n+1, all), nil
	case ">=":
		return row(n, all), nil
	case "^":
		return row(n, number(v.next(v.lead()))), nil
	case "~":
		return row(n, number(v.next(1))), nil
	}
	return Range{}, api.ErrForm
}

// lead is the place of the first part that is not 0, or of the last one.
func (v Version) lead() int {
	last := len(v) - 1
	for i, part := range v[:last] {
		if part != 0 {
			return i
		}
	}
	return last
}

// next has one more at a place, and noughts behind; it may be beyond MaxPart there.
func (v Version) next(place int) Version {
	v[place]++
	clear(v[place+1:])
	return v
}

// pieces are what stands between marks, each with the place of its first byte.
func pieces(text, mark string) iter.Seq2[int, string] {
	return func(yield func(int, string) bool) {
		at := 0
		for {
			n := strings.Index(text[at:], mark)
			if n < 0 {
				yield(at, text[at:])
				return
			}
			if !yield(at, text[at:at+n]) {
				return
			}
			at += n + len(mark)
		}
	}
}
