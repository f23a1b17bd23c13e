package curve_test

import (
	"bytes"
	"testing"

	"conclave/api"
	"conclave/curve"
)

// scribble over a list and its spare room.
func scribble(b []byte) {
	b = b[:cap(b)]
	for i := range b {
		b[i] ^= 0xa5
	}
}

// wantUntouched: the room stays in which all lists are that are handed in, and answers are new memory, whether the call is refused or not.
func wantUntouched(t *testing.T, what string, room []byte, do func() ([]byte, api.Errno), want api.Errno) {
	t.Helper()
	before := bytes.Clone(room)
	first, e := do()
	if e != want {
		t.Fatalf("%s: %d, want %d", what, int(e), int(want))
	}
	if !bytes.Equal(room, before) {
		t.Errorf("%s: a list that was handed in is changed", what)
	}
	kept := bytes.Clone(first)
	scribble(first)
	if !bytes.Equal(room, before) {
		t.Errorf("%s: the answer shares memory with a list that was handed in", what)
	}
	second, _ := do()
	if !bytes.Equal(second, kept) {
		t.Errorf("%s: answers share memory, or something is kept", what)
	}
	scribble(room)
	if !bytes.Equal(second, kept) {
		t.Errorf("%s: the answer hangs on a list that was handed in", what)
	}
}

// TestListsStay: lists that are handed in, and their spare room, are not changed, and not kept; answers are new memory.
func TestListsStay(t *testing.T) {
	for _, c := range []struct {
		what          string
		secret, point []byte
		want          api.Errno
	}{
		{"ordinary ones", pattern(32, 1), pattern(32, 2), api.OK},
		{"every bit set", full(32), full(32), api.OK},
		{"noughts", make([]byte, 32), make([]byte, 32), api.ErrZero},
		{"a number beyond p", full(32), beyond(0xee), api.ErrZero},
		{"a short secret", pattern(31, 1), pattern(32, 2), api.ErrSize},
		{"a long point", pattern(32, 1), pattern(33, 2), api.ErrSize},
	} {
		k, n := len(c.secret), len(c.point)
		// each list has what is behind it as its spare room
		room := bytes.Join([][]byte{c.secret, c.point, pattern(100, 5)}, nil)
		wantUntouched(t, "Shared: "+c.what, room, func() ([]byte, api.Errno) { return curve.Shared(room[:k], room[k:k+n]) }, c.want)
		room = bytes.Join([][]byte{c.secret, pattern(100, 5)}, nil)
		want := api.OK
		if k != 32 {
			want = api.ErrSize
		}
		wantUntouched(t, "Point: "+c.what, room, func() ([]byte, api.Errno) { return curve.Point(room[:k]) }, want)
	}
}

// TestOneListTwice: one list may be the secret and the point.
func TestOneListTwice(t *testing.T) {
	one := pattern(32, 1)
	got, e := curve.Shared(one, one)
	want, _ := curve.Shared(pattern(32, 1), pattern(32, 1))
	if e != api.OK || !bytes.Equal(got, want) {
		t.Errorf("%x, %d, want %x, 0", got, int(e), want)
	}
}
