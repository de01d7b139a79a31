package count

import (
	"reflect"
	"testing"
)

// P4: no answer shares memory with what it is made of, though it is the same number.
func TestFresh(t *testing.T) {
	a := Of(7_000_000_001)
	less, err := a.Sub(Nat{})
	if err != nil {
		t.Fatal(err)
	}
	all := map[string]Nat{
		"Add":        a.Add(Nat{}),
		"Add to 0":   Nat{}.Add(a),
		"Sub":        less,
		"Mul":        a.Mul(Of(1)),
		"Mul of 1":   Of(1).Mul(a),
		"Double":     a.Double(0),
		"Double(-1)": a.Double(-1),
	}
	for what, b := range all {
		if !reflect.DeepEqual(a, b) {
			t.Errorf("%s: %v has another form than %v", what, b, a)
		}
		clear(b.digits[:cap(b.digits)])
		if a.Text() != "7000000001" {
			t.Fatalf("%s shares memory with its argument", what)
		}
	}
}

// A number has one form, however it came to be.
func TestOneForm(t *testing.T) {
	nought, err := Parse("0")
	if err != nil {
		t.Fatal(err)
	}
	big := Of(1).Double(1000)
	gone, err := big.Sub(big)
	if err != nil {
		t.Fatal(err)
	}
	small, err := big.Add(Of(5)).Sub(big)
	if err != nil {
		t.Fatal(err)
	}
	for _, a := range []Nat{Of(0), Of(-1), nought, gone, gone.Double(5), big.Mul(gone), gone.Add(gone)} {
		if !reflect.DeepEqual(a, Nat{}) {
			t.Errorf("0 has the form %v", a)
		}
	}
	if !reflect.DeepEqual(small, Of(5)) {
		t.Errorf("5 has the form %v", small)
	}
}
