package order_test

import (
	"bytes"
	"fmt"
	"math"
	"testing"

	"conclave/api"
	"conclave/order"
)

// examples: commands and their bytes, told by hand.
var examples = []struct {
	what  api.Command
	bytes []byte
}{
	{api.Command{}, make([]byte, 20)},
	{put(0, 0, 0, 0), []byte{3: 1, 19: 0}},
	{put(1, 2, 3, 260), []byte{0, 0, 0, 1, 0, 0, 0, 1, 0, 0, 0, 2, 0, 0, 0, 3, 0, 0, 1, 4}},
	{put(7, 0x0a0b0c, 5, 0x01020304), []byte{0, 0, 0, 1, 0, 0, 0, 7, 0, 10, 11, 12, 0, 0, 0, 5, 1, 2, 3, 4}},
	{put(7, 1<<20, 7, 1<<30), []byte{0, 0, 0, 1, 0, 0, 0, 7, 0, 16, 0, 0, 0, 0, 0, 7, 64, 0, 0, 0}},
	{put(6, 1<<20-1, 6, 1<<30-1), []byte{0, 0, 0, 1, 0, 0, 0, 6, 0, 15, 255, 255, 0, 0, 0, 6, 63, 255, 255, 255}},
	{get(0, 0, 0), []byte{3: 2, 19: 0}},
	{get(4, 65535, 7), []byte{0, 0, 0, 2, 0, 0, 0, 4, 0, 0, 255, 255, 0, 0, 0, 7, 0, 0, 0, 0}},
	{revoke(0, 0, 0), []byte{3: 3, 19: 0}},
	{revoke(7, 65536, 7), []byte{0, 0, 0, 3, 0, 0, 0, 7, 0, 1, 0, 0, 0, 0, 0, 7, 0, 0, 0, 0}},
}

// wantDecodeRefused: bytes that no command has.
func wantDecodeRefused(t *testing.T, what string, b []byte, want api.Errno) {
	t.Helper()
	if c, e := order.Decode(b); e != want || c != (api.Command{}) {
		t.Errorf("Decode of %s: %v, %d, want nothing, %d", what, c, int(e), int(want))
	}
}

// TestEncodeOfExamples: P7.2: the five numbers, the highest byte first.
func TestEncodeOfExamples(t *testing.T) {
	for _, c := range examples {
		if b, e := order.Encode(c.what); e != api.OK || !bytes.Equal(b, c.bytes) {
			t.Errorf("%v: %v, %d, want %v", c.what, b, int(e), c.bytes)
		}
	}
}

// TestDecodeOfExamples: P7.3: the command of bytes.
func TestDecodeOfExamples(t *testing.T) {
	for _, c := range examples {
		if got, e := order.Decode(c.bytes); e != api.OK || got != c.what {
			t.Errorf("%v: %v, %d, want %v", c.bytes, got, int(e), c.what)
		}
	}
}

// TestEncodeAndDecode: P7.2, P7.3: each command has bytes of its own, which are decoded as this command.
func TestEncodeAndDecode(t *testing.T) {
	met := map[string]api.Command{}
	for _, c := range rightCommands() {
		b, e := order.Encode(c)
		if e != api.OK || len(b) != 20 {
			t.Fatalf("%v: %v, %d", c, b, int(e))
		}
		if other, is := met[string(b)]; is {
			t.Errorf("%v and %v have the same bytes", c, other)
		}
		met[string(b)] = c
		if got, e := order.Decode(b); e != api.OK || got != c {
			t.Errorf("%v came back as %v, %d", c, got, int(e))
		}
	}
}

// TestEncodeRefuses: P7.2: what Check refuses, with the same error.
func TestEncodeRefuses(t *testing.T) {
	for _, c := range wrongCommands() {
		if b, e := order.Encode(c.what); e != c.want || len(b) != 0 {
			t.Errorf("Encode of %v: %v, %d, want nothing, %d", c.what, b, int(e), int(c.want))
		}
	}
}

// TestDecodeOfSizes: P7.3: no other number of bytes, whatever they are.
func TestDecodeOfSizes(t *testing.T) {
	wantDecodeRefused(t, "nil", nil, api.ErrSize)
	for _, n := range []int{0, 1, 4, 16, 18, 19, 21, 22, 24, 40, 5000} {
		what := fmt.Sprint(n, " bytes")
		wantDecodeRefused(t, what+" of nought", make([]byte, n), api.ErrSize)
		wantDecodeRefused(t, what+" of 255", bytes.Repeat([]byte{255}, n), api.ErrSize)
	}
	for _, c := range examples {
		wantDecodeRefused(t, "one byte too few", c.bytes[:19], api.ErrSize)
		wantDecodeRefused(t, "one byte too many", join(c.bytes, []byte{0}), api.ErrSize)
	}
}

// TestDecodeRefuses: P7.3: numbers of 32 bits that Check refuses.
func TestDecodeRefuses(t *testing.T) {
	for _, c := range wrongCommands() {
		var b []byte
		fits := true
		for _, n := range []int{c.what.Kind, c.what.Client, c.what.Seq, c.what.Name, c.what.Value} {
			fits = fits && n >= 0 && n <= math.MaxUint32
			b = append(b, byte(n>>24), byte(n>>16), byte(n>>8), byte(n))
		}
		if fits {
			wantDecodeRefused(t, fmt.Sprint(c.what), b, c.want)
		}
	}
}

// TestDecodeOfAnyBit: P7.3: a bit that is another makes another command, or none; numbers are never below 0.
func TestDecodeOfAnyBit(t *testing.T) {
	for _, c := range examples {
		for bit := range 8 * 20 {
			b := changed(c.bytes, bit)
			want := c.what
			fields := []*int{&want.Kind, &want.Client, &want.Seq, &want.Name, &want.Value}
			*fields[bit/32] ^= 1 << (8*(3-bit/8%4) + bit%8)
			if e := order.Check(want); e != api.OK {
				wantDecodeRefused(t, fmt.Sprint(b), b, e)
			} else if got, e := order.Decode(b); e != api.OK || got != want {
				t.Errorf("%v: %v, %d, want %v", b, got, int(e), want)
			}
		}
	}
}
