package cha_test

import (
	"bytes"
	"testing"

	"conclave/api"
	"conclave/cha"
)

// calls: each call at lists that are handed in.
var calls = map[string]func(key, nonce, data []byte) ([]byte, api.Errno){
	"Block": func(key, nonce, data []byte) ([]byte, api.Errno) { return cha.Block(key, 5, nonce) },
	"Mix":   func(key, nonce, data []byte) ([]byte, api.Errno) { return cha.Mix(key, 5, nonce, data) },
}

// TestListsStay: lists that are handed in, and their spare room, are not changed, and not kept; answers are new memory.
func TestListsStay(t *testing.T) {
	for name, call := range calls {
		for _, n := range []int{0, 1, 63, 64, 65, 300, api.MaxData} {
			room := pattern(32+12+2*n+400, 5)
			before := bytes.Clone(room)
			// each list has the next one, and what is behind it, as its spare room
			key, nonce, data := room[:32], room[32:44], room[44:44+n]
			first, e := call(key, nonce, data)
			if e != api.OK {
				t.Fatalf("%s: length %d: %d", name, n, int(e))
			}
			if !bytes.Equal(room, before) {
				t.Errorf("%s: length %d: a list that was handed in is changed", name, n)
			}
			kept := bytes.Clone(first)
			scribble(first)
			if !bytes.Equal(room, before) {
				t.Errorf("%s: length %d: the answer shares memory with a list that was handed in", name, n)
			}
			second, _ := call(key, nonce, data)
			if !bytes.Equal(second, kept) {
				t.Errorf("%s: length %d: answers share memory, or something is kept", name, n)
			}
			scribble(room)
			if !bytes.Equal(second, kept) {
				t.Errorf("%s: length %d: the answer hangs on a list that was handed in", name, n)
			}
		}
	}
}

// scribble over a list and its spare room.
func scribble(b []byte) {
	b = b[:cap(b)]
	for i := range b {
		b[i] ^= 0xa5
	}
}

// TestOneListTwice: parts of one list may be handed in at several places.
func TestOneListTwice(t *testing.T) {
	one := pattern(32, 1)
	got, e := cha.Mix(one, 3, one[:12], one)
	want, _ := cha.Mix(pattern(32, 1), 3, pattern(12, 1), pattern(32, 1))
	if e != api.OK || !bytes.Equal(got, want) {
		t.Errorf("%x, %d, want %x, 0", got, int(e), want)
	}
}
