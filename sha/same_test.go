package sha_test

import (
	"bytes"
	"testing"

	"conclave/sha"
)

// TestSameLists: P1.4: lists that are the same, nothing at all among them.
func TestSameLists(t *testing.T) {
	if !sha.Same(nil, nil) || !sha.Same(nil, []byte{}) || !sha.Same([]byte{}, nil) {
		t.Error("two lists without elements are not the same")
	}
	for _, n := range []int{1, 2, 16, 32, 64, 65, 2000, 100000} {
		a := pattern(n, 1)
		if !sha.Same(a, a) || !sha.Same(a, bytes.Clone(a)) {
			t.Errorf("two lists of %d bytes are not the same", n)
		}
	}
}

// TestSameAtEachBit: P1.4: lists that differ in one bit, wherever it is.
func TestSameAtEachBit(t *testing.T) {
	a := pattern(70, 1)
	for i := range a {
		for bit := range 8 {
			b := bytes.Clone(a)
			b[i] ^= 1 << bit
			if sha.Same(a, b) || sha.Same(b, a) {
				t.Errorf("the bit %d of the byte %d makes no difference", bit, i)
			}
		}
	}
}

// TestSameTwoPlaces: P1.4: differences at two places do not make up for each other.
func TestSameTwoPlaces(t *testing.T) {
	a, b := []byte{1, 2, 3, 4}, []byte{2, 1, 3, 4}
	if sha.Same(a, b) || sha.Same([]byte{5, 5}, []byte{6, 6}) || sha.Same([]byte{5, 6}, []byte{6, 5}) {
		t.Error("lists that differ at two places are the same")
	}
}

// TestSameLengths: P1.4: a list and its beginning, also where noughts alone are missing.
func TestSameLengths(t *testing.T) {
	for n := range 40 {
		a := pattern(n, 1)
		longer := append(bytes.Clone(a), 0)
		if sha.Same(a, longer) || sha.Same(longer, a) {
			t.Errorf("%d bytes, and one more, are the same", n)
		}
		if sha.Same(make([]byte, n), make([]byte, n+1)) || sha.Same(make([]byte, n+1), make([]byte, n)) {
			t.Errorf("%d noughts, and one more, are the same", n)
		}
	}
	if sha.Same(nil, []byte{0}) || sha.Same([]byte{0}, nil) {
		t.Error("nothing is the same as a nought")
	}
}
