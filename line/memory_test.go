package line_test

import (
	"bytes"
	"fmt"
	"testing"

	"conclave/api"
	"conclave/line"
)

// scribble over a list and its spare room.
func scribble(b []byte) {
	b = b[:cap(b)]
	for i := range b {
		b[i] ^= 0xa5
	}
}

// call of Send or Take.
type call func(c api.Channel, b []byte) (api.Channel, []byte, api.Errno)

// wantUntouched: the key and the bytes stay that are handed in, with what is behind them, and answers are new memory, whether the call is refused or not.
func wantUntouched(t *testing.T, what string, do call, c api.Channel, b []byte, want api.Errno) {
	t.Helper()
	n := len(c.Key)
	// each list has what is behind it as its spare room
	room := join(c.Key, b, pattern(400, 5))
	before := bytes.Clone(room)
	c.Key, b = room[:n], room[n:n+len(b)]
	stays := func(why string) {
		t.Helper()
		if !bytes.Equal(room, before) {
			t.Fatalf("%s: %s", what, why)
		}
	}
	first, bytesOf, e := do(c, b)
	if e != want {
		t.Fatalf("%s: %d, want %d", what, int(e), int(want))
	}
	stays("a list that was handed in is changed")
	key, kept := bytes.Clone(first.Key), bytes.Clone(bytesOf)
	scribble(first.Key)
	if !bytes.Equal(bytesOf, kept) {
		t.Errorf("%s: the two lists of an answer share memory", what)
	}
	keyNow := bytes.Clone(first.Key)
	scribble(bytesOf)
	if !bytes.Equal(first.Key, keyNow) {
		t.Errorf("%s: the two lists of an answer share memory", what)
	}
	stays("the answer shares memory with a list that was handed in")
	second, again, _ := do(c, b)
	scribble(first.Key)
	scribble(bytesOf)
	scribble(room)
	if !bytes.Equal(second.Key, key) || !bytes.Equal(again, kept) {
		t.Errorf("%s: an answer hangs on another, or on what was handed in", what)
	}
}

// TestListsStay: lists that are handed in, and their spare room, are not changed, and not kept; answers are new memory.
func TestListsStay(t *testing.T) {
	for _, c := range []api.Channel{channel(0), channel(20, 12, 19), channel(last, last-1)} {
		for _, n := range []int{0, 1, 12, 15, 16, 17, 64, 300, api.MaxData} {
			what := fmt.Sprint("top ", c.Top, ", ", n, " bytes")
			wantUntouched(t, "Send: "+what, line.Send, c, pattern(n, 2), api.OK)
			for _, number := range []int{c.Top, last} {
				r := record(t, pattern(32, 1), number, pattern(n, 2))
				wantUntouched(t, "Take: "+what, line.Take, c, r, api.OK)
				wantUntouched(t, "Take of a wrong tag: "+what, line.Take, c, changed(r, 8*len(r)-1), api.ErrTag)
			}
		}
	}
}

// TestListsStayWhenRefused: the same where a call is refused ahead of any sealing.
func TestListsStayWhenRefused(t *testing.T) {
	r := record(t, pattern(32, 1), 19, pattern(7, 2))
	all := channel(0)
	all.Sent = api.MaxCounter
	wantUntouched(t, "Send of too many", line.Send, channel(0), pattern(api.MaxData+1, 2), api.ErrSize)
	wantUntouched(t, "Send without a number", line.Send, all, pattern(7, 2), api.ErrFull)
	wantUntouched(t, "Send from a wrong channel", line.Send, channel(1), pattern(7, 2), api.ErrState)
	wantUntouched(t, "Take from a wrong channel", line.Take, channel(1), r, api.ErrState)
	wantUntouched(t, "Take of too many", line.Take, channel(0), pattern(api.MaxData+21, 2), api.ErrSize)
	wantUntouched(t, "Take of too few", line.Take, channel(0), r[:19], api.ErrShort)
	wantUntouched(t, "Take of too great a number", line.Take, channel(0), full(30), api.ErrRange)
	wantUntouched(t, "Take of one that was met", line.Take, channel(20, 19), r, api.ErrOld)
}

// TestKeyStays: New and Check do not change the key or what is behind it, and New's answer is new memory.
func TestKeyStays(t *testing.T) {
	for _, n := range []int{0, 31, 32, 33} {
		room := pattern(100, 1)
		c, _ := line.New(room[:n])
		line.Check(api.Channel{Key: room[:n]})
		key := bytes.Clone(c.Key)
		scribble(c.Key)
		if !bytes.Equal(room, pattern(100, 1)) {
			t.Errorf("a key of %d: it is changed, or the channel shares memory with it", n)
		}
		scribble(c.Key)
		scribble(room)
		if !bytes.Equal(c.Key, key) {
			t.Errorf("a key of %d: the channel hangs on it", n)
		}
	}
}

// TestOneListTwice: the key may be what is sent, too, and a part of the record that is taken.
func TestOneListTwice(t *testing.T) {
	key := pattern(32, 1)
	_, r := sent(t, api.Channel{Key: key}, key)
	if want := record(t, pattern(32, 1), 0, pattern(32, 1)); !bytes.Equal(r, want) {
		t.Errorf("%x, want %x", r, want)
	}
	part := r[:32] // of the record, as the key: it was sealed with another one
	got, plain, e := line.Take(api.Channel{Key: part}, r)
	wantRefused(t, "a key that is a part of the record", got, plain, e, api.ErrTag)
}

// TestRefusedStays: with an error nothing is met and nothing is sent: the same channel goes on as if nothing had come.
func TestRefusedStays(t *testing.T) {
	c, before := channel(20, 12, 19), channel(20, 12, 19)
	right := record(t, pattern(32, 1), 25, pattern(7, 2))
	for what, r := range map[string][]byte{
		"a wrong tag":      changed(right, 8*len(right)-1),
		"an old one":       record(t, pattern(32, 1), 12, nil),
		"one out of range": record(t, pattern(32, 1), api.MaxCounter, nil),
		"a short one":      right[:19],
		"a long one":       make([]byte, api.MaxData+21),
	} {
		if _, _, e := line.Take(c, r); e == api.OK {
			t.Errorf("%s is taken", what)
		}
		wantChannel(t, what, c, before)
	}
	if _, _, e := line.Send(c, make([]byte, api.MaxData+1)); e == api.OK {
		t.Error("too many are sent")
	}
	wantChannel(t, "too many", c, before)
	next, _ := taken(t, c, right)
	wantChannel(t, "the right one", next, channel(26, 19, 25))
	_, r := sent(t, c, pattern(7, 2))
	if want := record(t, pattern(32, 1), 0, pattern(7, 2)); !bytes.Equal(r, want) {
		t.Errorf("%x, want %x", r, want)
	}
}
