package seal_test

import (
	"bytes"
	"fmt"
	"testing"

	"conclave/api"
	"conclave/seal"
)

// room: lists one behind the other, in one memory: each one has all that is behind it as its spare room.
type room struct {
	all, before             []byte
	key, nonce, known, data []byte
}

// newRoom of a key, a nonce, so many bytes known, the data, and room behind them.
func newRoom(known int, data []byte) room {
	all := join(pattern(32, 1), pattern(12, 2), pattern(known, 4), data, pattern(400, 5))
	end := 44 + known
	return room{all, bytes.Clone(all), all[:32], all[32:44], all[44:end], all[end : end+len(data)]}
}

// call of Seal or Open at a room's lists.
type call func(key, nonce, known, data []byte) ([]byte, api.Errno)

// wantUntouched: the lists stay, and answers are new memory, whether the call is refused or not.
func wantUntouched(t *testing.T, what string, do call, r room, want api.Errno) {
	t.Helper()
	first, e := do(r.key, r.nonce, r.known, r.data)
	if e != want {
		t.Fatalf("%s: %d, want %d", what, int(e), int(want))
	}
	if !bytes.Equal(r.all, r.before) {
		t.Errorf("%s: a list that was handed in is changed", what)
	}
	kept := bytes.Clone(first)
	scribble(first)
	if !bytes.Equal(r.all, r.before) {
		t.Errorf("%s: the answer shares memory with a list that was handed in", what)
	}
	second, _ := do(r.key, r.nonce, r.known, r.data)
	if !bytes.Equal(second, kept) {
		t.Errorf("%s: answers share memory, or something is kept", what)
	}
	scribble(r.all)
	if !bytes.Equal(second, kept) {
		t.Errorf("%s: the answer hangs on a list that was handed in", what)
	}
}

// scribble over a list and its spare room.
func scribble(b []byte) {
	b = b[:cap(b)]
	for i := range b {
		b[i] ^= 0xa5
	}
}

// TestListsStay: lists that are handed in, and their spare room, are not changed, and not kept; answers are new memory.
func TestListsStay(t *testing.T) {
	for _, k := range []int{0, 1, 15, 16, 17, api.MaxKey} {
		for _, n := range []int{0, 1, 15, 16, 17, 64, 300, api.MaxData} {
			what := fmt.Sprint(k, " known, ", n, " plain")
			wantUntouched(t, "Seal: "+what, seal.Seal, newRoom(k, pattern(n, 3)), api.OK)
			data, tag := sealed(t, pattern(32, 1), pattern(12, 2), pattern(k, 4), pattern(n, 3))
			wantUntouched(t, "Open: "+what, seal.Open, newRoom(k, join(data, tag)), api.OK)
			wantUntouched(t, "Open, refused: "+what, seal.Open, newRoom(k, changed(join(data, tag), 8*n)), api.ErrTag)
		}
	}
	wantUntouched(t, "Seal of too many", seal.Seal, newRoom(3, pattern(api.MaxData+1, 3)), api.ErrSize)
	wantUntouched(t, "Open of too few", seal.Open, newRoom(3, pattern(15, 3)), api.ErrShort)
}

// TestOneListTwice: parts of one list may be handed in at several places.
func TestOneListTwice(t *testing.T) {
	one := pattern(32, 1)
	got, e := seal.Seal(one, one[:12], one, one)
	want, _ := seal.Seal(pattern(32, 1), pattern(12, 1), pattern(32, 1), pattern(32, 1))
	if e != api.OK || !bytes.Equal(got, want) {
		t.Errorf("%x, %d, want %x, 0", got, int(e), want)
	}
	back, e := seal.Open(one, one[:12], one, got)
	if e != api.OK || !bytes.Equal(back, one) {
		t.Errorf("%x, %d, want %x, 0", back, int(e), one)
	}
}
