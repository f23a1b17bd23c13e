package poly_test

import (
	"bytes"
	"testing"

	"conclave/api"
	"conclave/poly"
)

// TestListsStay: lists that are handed in, and their spare room, are not changed, and not kept; answers are new memory.
func TestListsStay(t *testing.T) {
	for _, n := range []int{0, 1, 15, 16, 17, 300, mostData} {
		room := pattern(32+n+100, 5)
		before := bytes.Clone(room)
		// each list has what is behind it as its spare room
		key, data := room[:32], room[32:32+n]
		first, e := poly.Tag(key, data)
		if e != api.OK {
			t.Fatalf("length %d: %d", n, int(e))
		}
		if !bytes.Equal(room, before) {
			t.Errorf("length %d: a list that was handed in is changed", n)
		}
		kept := bytes.Clone(first)
		scribble(first)
		if !bytes.Equal(room, before) {
			t.Errorf("length %d: the answer shares memory with a list that was handed in", n)
		}
		second, _ := poly.Tag(key, data)
		if !bytes.Equal(second, kept) {
			t.Errorf("length %d: answers share memory, or something is kept", n)
		}
		scribble(room)
		if !bytes.Equal(second, kept) {
			t.Errorf("length %d: the answer hangs on a list that was handed in", n)
		}
	}
}

// scribble over a list and its spare room.
func scribble(b []byte) {
	b = b[:cap(b)]
	for i := range b {
		b[i] ^= 0xa5
	}
}

// TestOneListTwice: one list may be the key and the data.
func TestOneListTwice(t *testing.T) {
	one := pattern(32, 1)
	got, e := poly.Tag(one, one)
	want, _ := poly.Tag(pattern(32, 1), pattern(32, 1))
	if e != api.OK || !bytes.Equal(got, want) {
		t.Errorf("%x, %d, want %x, 0", got, int(e), want)
	}
}
