package sha_test

import (
	"bytes"
	"testing"

	"conclave/api"
	"conclave/sha"
)

// calls: each call at lists that are handed in, three at most.
var calls = map[string]func(a, b, c []byte) ([]byte, api.Errno){
	"Sum":  func(a, b, c []byte) ([]byte, api.Errno) { return sha.Sum(a) },
	"Mac":  func(a, b, c []byte) ([]byte, api.Errno) { return sha.Mac(a, b) },
	"Draw": func(a, b, c []byte) ([]byte, api.Errno) { return sha.Draw(a, b, c, 70) },
	"Same": func(a, b, c []byte) ([]byte, api.Errno) { sha.Same(a, b); return nil, api.OK },
}

// TestListsStay: lists that are handed in, and their spare room, are not changed, and not kept; answers are new memory.
func TestListsStay(t *testing.T) {
	for name, call := range calls {
		for _, n := range []int{0, 1, 32, 55, 56, 63, 64, 65, 100, api.MaxKey} {
			room := pattern(4*n+400, 5)
			before := bytes.Clone(room)
			// each list has the next one, and what is behind it, as its spare room
			a, b, c := room[:n], room[n:2*n], room[2*n:3*n]
			first, e := call(a, b, c)
			if e != api.OK {
				t.Fatalf("%s: length %d: %d", name, n, int(e))
			}
			if !bytes.Equal(room, before) {
				t.Errorf("%s: length %d: a list that was handed in is changed", name, n)
			}
			kept := bytes.Clone(first)
			scribble(first)
			if !bytes.Equal(room, before) {
				t.Errorf("%s: length %d: the answer shares memory with a list that was handed in", name, n)
			}
			second, _ := call(a, b, c)
			if !bytes.Equal(second, kept) {
				t.Errorf("%s: length %d: answers share memory, or something is kept", name, n)
			}
			scribble(room)
			if !bytes.Equal(second, kept) {
				t.Errorf("%s: length %d: the answer hangs on a list that was handed in", name, n)
			}
		}
	}
}

// scribble over a list and its spare room.
func scribble(b []byte) {
	b = b[:cap(b)]
	for i := range b {
		b[i] ^= 0xa5
	}
}

// TestOneListTwice: the same list may be handed in at several places.
func TestOneListTwice(t *testing.T) {
	for name, call := range calls {
		one := pattern(100, 1)
		got, _ := call(one, one, one)
		want, _ := call(pattern(100, 1), pattern(100, 1), pattern(100, 1))
		if !bytes.Equal(got, want) {
			t.Errorf("%s: %x, want %x", name, got, want)
		}
	}
}
