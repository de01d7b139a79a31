package semver

import (
	"reflect"
	"testing"
)

// P4: no answer shares memory with what it is made of, though it has the same versions.
func TestFresh(t *testing.T) {
	a, err := ParseRange(">=1.0.0 <2.0.0 || 3.0.0")
	if err != nil {
		t.Fatal(err)
	}
	want := a.Text()
	for what, b := range map[string]Range{
		"Or":           a.Or(Range{}),
		"Or of none":   Range{}.Or(a),
		"Or of both":   a.Or(a),
		"And":          a.And(Any()),
		"And of any":   Any().And(a),
		"And of both":  a.And(a),
		"Not, and Not": a.Not().Not(),
	} {
		if !reflect.DeepEqual(a, b) {
			t.Errorf("%s: %v has another form than %v", what, b, a)
		}
		clear(b.spans[:cap(b.spans)])
		if a.Text() != want {
			t.Fatalf("%s shares memory with its argument", what)
		}
	}
}

// Ranges that have the same versions are alike, however they came to be.
func TestOneForm(t *testing.T) {
	none, err := ParseRange("<0.0.0 || 1.0.0 2.0.0 || none")
	if err != nil {
		t.Fatal(err)
	}
	for _, r := range []Range{none, Any().Not(), none.Or(none), none.And(Any()), row(5, 5), row(all, all)} {
		if !reflect.DeepEqual(r, Range{}) {
			t.Errorf("none has the form %v", r)
		}
	}
	for _, r := range []Range{none.Not(), row(0, 5).Or(row(5, all)), row(5, 6).Or(row(5, 6).Not()), Any().And(Any())} {
		if !reflect.DeepEqual(r, Any()) {
			t.Errorf("any has the form %v", r)
		}
	}
}
