package order_test

import (
	"bytes"
	"fmt"
	"testing"

	"conclave/api"
	"conclave/order"
)

// scribble over a list and its spare room.
func scribble(b []byte) {
	b = b[:cap(b)]
	for i := range b {
		b[i] ^= 0xa5
	}
}

// calls: what each call answers to a key and bytes, as bytes and a text.
var calls = map[string]func(key, b []byte) ([]byte, string){
	"Decode": func(key, b []byte) ([]byte, string) {
		return nil, fmt.Sprint(order.Decode(b))
	},
	"Grant": func(key, b []byte) ([]byte, string) {
		out, e := order.Grant(key, api.Token{Client: 3, Rights: 5, Until: 1000})
		return out, fmt.Sprint(e)
	},
	"Grant of a wrong token": func(key, b []byte) ([]byte, string) {
		out, e := order.Grant(key, api.Token{Client: 8})
		return out, fmt.Sprint(e)
	},
	"Prove": func(key, b []byte) ([]byte, string) {
		return nil, fmt.Sprint(order.Prove(key, b))
	},
}

// wantUntouched: the lists stay that are handed in, with what is behind them, and the answer is new memory.
func wantUntouched(t *testing.T, what string, call func(key, b []byte) ([]byte, string), key, b []byte) {
	t.Helper()
	// each list has what is behind it as its spare room
	room := join(key, b, pattern(400, 5))
	before := bytes.Clone(room)
	key, b = room[:len(key)], room[len(key):len(key)+len(b)]
	first, said := call(key, b)
	if !bytes.Equal(room, before) {
		t.Fatalf("%s: a list that was handed in is changed", what)
	}
	kept := bytes.Clone(first)
	scribble(first)
	if !bytes.Equal(room, before) {
		t.Fatalf("%s: the answer shares memory with a list that was handed in", what)
	}
	second, again := call(key, b)
	scribble(first)
	scribble(room)
	if !bytes.Equal(second, kept) || said != again {
		t.Errorf("%s: an answer hangs on another, or on what was handed in", what)
	}
}

// TestListsStay: lists that are handed in, and their spare room, are not changed, and not kept, whether a call is refused or not; answers are new memory.
func TestListsStay(t *testing.T) {
	token := unhex(t, granted[3].bytes)
	lists := [][]byte{nil, token, token[:21], join(token, []byte{0}), changed(token, 3), changed(token, 100), unhex(t, forged[0]), make([]byte, 20), pattern(20, 1), pattern(300, 1)}
	for _, c := range examples {
		lists = append(lists, c.bytes)
	}
	for name, call := range calls {
		for _, n := range []int{0, 31, 32, 33, 64, 65, 300} {
			for _, b := range lists {
				wantUntouched(t, fmt.Sprint(name, ", a key of ", n, ", ", len(b), " bytes"), call, pattern(n, 1), b)
			}
		}
	}
}

// TestEncodeAnswersNewMemory: P7.2: no two answers share any.
func TestEncodeAnswersNewMemory(t *testing.T) {
	for _, c := range examples {
		first, _ := order.Encode(c.what)
		scribble(first)
		second, _ := order.Encode(c.what)
		scribble(first)
		if !bytes.Equal(second, c.bytes) {
			t.Errorf("%v: %v, want %v", c.what, second, c.bytes)
		}
	}
}

// TestOneListTwice: P7.6: the key may be a part of what is proved.
func TestOneListTwice(t *testing.T) {
	key := pattern(32, 1)
	room := join(unhex(t, granted[3].bytes), key[22:])
	wantProveRefused(t, "a token that is a part of its key", room, room[:tokenSize], api.ErrTag)
	if b := grant(t, key, granted[3].token); !bytes.Equal(key, pattern(32, 1)) || !bytes.Equal(b, unhex(t, granted[3].bytes)) {
		t.Errorf("%x, and the key %x", b, key)
	}
}
