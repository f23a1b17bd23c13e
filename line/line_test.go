package line_test

import (
	"bytes"
	"encoding/hex"
	"fmt"
	"math"
	"testing"

	"conclave/api"
	"conclave/line"
	"conclave/seal"
)

const (
	headSize = 4
	tagSize  = 16
	last     = api.MaxCounter - 1 // the greatest number that a record can have
)

// pattern: n bytes that differ from seed to seed.
func pattern(n, seed int) []byte {
	b := make([]byte, n)
	for i := range b {
		b[i] = byte((i*7 + seed*31 + 3) % 251)
	}
	return b
}

// full: n bytes in which each bit is set.
func full(n int) []byte { return bytes.Repeat([]byte{255}, n) }

// join lists, in new memory.
func join(lists ...[]byte) []byte { return bytes.Join(lists, nil) }

// unhex: the bytes of a text in base 16.
func unhex(t *testing.T, text string) []byte {
	t.Helper()
	b, err := hex.DecodeString(text)
	if err != nil {
		t.Fatal(err)
	}
	return b
}

// changed: a copy in which a bit is another.
func changed(b []byte, bit int) []byte {
	b = bytes.Clone(b)
	b[bit/8] ^= 1 << (bit % 8)
	return b
}

// record with any number of 32 bits under a key, made without a channel.
func record(t *testing.T, key []byte, number int, plain []byte) []byte {
	t.Helper()
	head := []byte{byte(number >> 24), byte(number >> 16), byte(number >> 8), byte(number)}
	sealed, e := seal.Seal(key, join(make([]byte, 8), head), head, plain)
	if e != api.OK {
		t.Fatalf("no record %d of %d bytes: %d", number, len(plain), int(e))
	}
	return join(head, sealed)
}

// channel with the key of the pattern 1, a top, and the numbers below it that were met.
func channel(top int, met ...int) api.Channel {
	c := api.Channel{Key: pattern(32, 1), Top: top}
	for _, number := range met {
		c.Seen[number-(top-api.Window)] = true
	}
	return c
}

// fresh channel with a key, of a call that is not refused.
func fresh(t *testing.T, key []byte) api.Channel {
	t.Helper()
	c, e := line.New(key)
	if e != api.OK {
		t.Fatalf("New of %x: %d", key, int(e))
	}
	return c
}

// sent: of a call that is not refused.
func sent(t *testing.T, c api.Channel, plain []byte) (api.Channel, []byte) {
	t.Helper()
	next, r, e := line.Send(c, plain)
	if e != api.OK || len(r) != headSize+len(plain)+tagSize {
		t.Fatalf("Send of %d bytes from %v: %x, %d", len(plain), c, r, int(e))
	}
	return next, r
}

// taken: of a call that is not refused.
func taken(t *testing.T, c api.Channel, r []byte) (api.Channel, []byte) {
	t.Helper()
	next, plain, e := line.Take(c, r)
	if e != api.OK {
		t.Fatalf("Take of %x from %v: %d", r, c, int(e))
	}
	return next, plain
}

// alike: have two channels the same fields?
func alike(a, b api.Channel) bool {
	return bytes.Equal(a.Key, b.Key) && a.Sent == b.Sent && a.Top == b.Top && a.Seen == b.Seen
}

// wantChannel: one channel is as the other.
func wantChannel(t *testing.T, what string, got, want api.Channel) {
	t.Helper()
	if !alike(got, want) {
		t.Errorf("%s: %v, want %v", what, got, want)
	}
}

// wantRefused: a call that is refused, so that all else is as nothing: nothing is sent, and nothing is met.
func wantRefused(t *testing.T, what string, c api.Channel, b []byte, e, want api.Errno) {
	t.Helper()
	if e != want || len(b) != 0 || !alike(c, api.Channel{}) {
		t.Errorf("%s: %v, %x, %d, want nothing, %d", what, c, b, int(e), int(want))
	}
}

// outside: numbers that neither Sent nor Top may be.
var outside = []int{
	-1, -2, -api.Window, -api.MaxCounter, math.MinInt32, math.MinInt + api.Window, math.MinInt + 1, math.MinInt,
	api.MaxCounter + 1, api.MaxCounter + api.Window, 2 * api.MaxCounter, math.MaxUint32, 1 << 32, math.MaxInt - 1, math.MaxInt,
}

// wrongKeys: lengths that no key has.
var wrongKeys = []int{0, 1, 16, 31, 33, 64, 5000}

// wrongChannels: channels that may not be, each by what is wrong with it.
func wrongChannels() map[string]api.Channel {
	wrong := map[string]api.Channel{
		"nothing at all":             {},
		"no key":                     {Top: 1, Seen: [api.Window]bool{7: true}},
		"-1 was met":                 channel(0, -1),
		"-8 was met":                 channel(0, -8),
		"-1 was met, as 0 was":       channel(1, -1, 0),
		"-7 was met, as 0 was":       channel(1, -7, 0),
		"-1 was met, as 6 was":       channel(7, -1, 6),
		"the top is 1, nothing met":  channel(1),
		"the top is 2, 0 was met":    channel(2, 0),
		"the top is 8, not 7":        channel(8, 0, 1, 2, 3, 4, 5, 6),
		"the top is 9, nothing met":  channel(9),
		"the last top, nothing met":  channel(api.MaxCounter),
		"the last top, not the last": channel(api.MaxCounter, last-1, last-7),
	}
	for _, n := range wrongKeys {
		c := channel(3, 0, 2)
		c.Key = pattern(n, 1)
		wrong[fmt.Sprint("a key of ", n)] = c
	}
	for _, n := range outside {
		c := channel(3, 0, 2)
		c.Sent = n
		wrong[fmt.Sprint("sent ", n)] = c
		for _, seen := range [][api.Window]bool{{}, {7: true}, {true, true, true, true, true, true, true, true}} {
			c = channel(0)
			c.Top, c.Seen = n, seen
			wrong[fmt.Sprint("top ", n, seen)] = c
		}
	}
	return wrong
}

// TestCheckRefuses: P6.1: channels that may not be.
func TestCheckRefuses(t *testing.T) {
	for what, c := range wrongChannels() {
		if e := line.Check(c); e != api.ErrState {
			t.Errorf("%s: %d, want %d", what, int(e), int(api.ErrState))
		}
	}
}

// TestCheckOfCounts: P6.1: Sent and Top at their bounds and beside them.
func TestCheckOfCounts(t *testing.T) {
	for _, count := range []int{0, 1, 7, 8, 9, 1000, last, api.MaxCounter} {
		for _, top := range []int{0, 1, 2, 7, 8, 9, 1000, last, api.MaxCounter} {
			c := channel(top)
			c.Sent = count
			c.Seen[api.Window-1] = top > 0
			if e := line.Check(c); e != api.OK {
				t.Errorf("sent %d, top %d: %d, want 0", count, top, int(e))
			}
		}
	}
}

// TestCheckOfSeen: P6.1: all that can be met, about the beginning, farther on and at the end.
func TestCheckOfSeen(t *testing.T) {
	for _, top := range []int{0, 1, 2, 3, 4, 5, 6, 7, 8, 9, 10, 16, 100, last, api.MaxCounter} {
		right := 0
		for bits := range 1 << api.Window {
			c := channel(top)
			fromBits(&c, bits)
			want := api.OK
			if top == 0 && bits != 0 || top > 0 && bits < 128 || top < api.Window && bits&(1<<(api.Window-top)-1) != 0 {
				want = api.ErrState
			} else {
				right++
			}
			if e := line.Check(c); e != want {
				t.Errorf("top %d, met %v: %d, want %d", top, c.Seen, int(e), int(want))
			}
		}
		if wantRight := max(1, 1<<min(top, api.Window)/2); right != wantRight {
			t.Errorf("top %d: %d may be, want %d", top, right, wantRight)
		}
	}
}

// fromBits: what a channel has seen, as bits of a number.
func fromBits(c *api.Channel, bits int) {
	for i := range c.Seen {
		c.Seen[i] = bits>>i&1 == 1
	}
}

// TestWrongChannelAheadOfAll: P6.1: Send and Take refuse a channel that may not be, whatever else is wrong or right.
func TestWrongChannelAheadOfAll(t *testing.T) {
	right := record(t, pattern(32, 1), 5, pattern(9, 2))
	for what, c := range wrongChannels() {
		for _, n := range []int{0, 9, api.MaxData, api.MaxData + 1, 1 << 20} {
			next, r, e := line.Send(c, make([]byte, n))
			wantRefused(t, fmt.Sprint("Send of ", n, ": ", what), next, r, e, api.ErrState)
		}
		for _, r := range [][]byte{
			nil, right[:3], right[:19], right, changed(right, 200), full(20), make([]byte, 20),
			make([]byte, api.MaxData+20), make([]byte, api.MaxData+21), full(1 << 20),
		} {
			next, plain, e := line.Take(c, r)
			wantRefused(t, fmt.Sprint("Take of ", len(r), ": ", what), next, plain, e, api.ErrState)
		}
	}
	next, r, e := line.Send(api.Channel{Sent: api.MaxCounter}, nil)
	wantRefused(t, "no key, and all numbers sent", next, r, e, api.ErrState)
}

// TestNew: P6.2: the key, and nothing sent or met.
func TestNew(t *testing.T) {
	for _, key := range [][]byte{make([]byte, 32), pattern(32, 1), full(32)} {
		c, e := line.New(key)
		if e != api.OK || line.Check(c) != api.OK {
			t.Errorf("New of %x: %d, Check %d", key, int(e), int(line.Check(c)))
		}
		wantChannel(t, "New", c, api.Channel{Key: key})
	}
}

// TestNewRefuses: P6.2: keys of other lengths.
func TestNewRefuses(t *testing.T) {
	for _, n := range wrongKeys {
		c, e := line.New(pattern(n, 1))
		wantRefused(t, fmt.Sprint("a key of ", n), c, nil, e, api.ErrSize)
	}
	c, e := line.New(nil)
	wantRefused(t, "nil", c, nil, e, api.ErrSize)
}
