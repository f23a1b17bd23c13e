package seal

import (
	"bytes"
	"testing"
)

// ones: n bytes 1.
func ones(n int) []byte { return bytes.Repeat([]byte{1}, n) }

// TestLaid: P4.1: what a tag is of: filled up where it must be, and the lengths behind it.
func TestLaid(t *testing.T) {
	none := func(n int) []byte { return make([]byte, n) }
	for _, c := range []struct {
		known, sealed int
		want          [][]byte
	}{
		{0, 0, [][]byte{none(16)}},
		{1, 0, [][]byte{ones(1), none(15), {1}, none(7), none(8)}},
		{0, 1, [][]byte{ones(1), none(15), none(8), {1}, none(7)}},
		{15, 17, [][]byte{ones(15), none(1), ones(17), none(15), {15}, none(7), {17}, none(7)}},
		{16, 16, [][]byte{ones(32), {16}, none(7), {16}, none(7)}},
		{17, 15, [][]byte{ones(17), none(15), ones(15), none(1), {17}, none(7), {15}, none(7)}},
		{255, 255, [][]byte{ones(255), none(1), ones(255), none(1), {255}, none(7), {255}, none(7)}},
		{256, 2000, [][]byte{ones(2256), {0, 1}, none(6), {208, 7}, none(6)}},
		{1, 1999, [][]byte{ones(1), none(15), ones(1999), none(1), {1}, none(7), {207, 7}, none(6)}},
	} {
		if got, want := laid(ones(c.known), ones(c.sealed)), bytes.Join(c.want, nil); !bytes.Equal(got, want) {
			t.Errorf("%d known, %d sealed: %x, want %x", c.known, c.sealed, got, want)
		}
	}
}
