package moot

import (
	"bytes"
	"fmt"
	"math"
	"testing"

	"conclave/api"
	"conclave/line"
	"conclave/order"
	"conclave/sha"
)

// wantOpen: what Open answers.
func wantOpen(t *testing.T, what string, data []byte, now int, want api.Command, why api.Errno) {
	t.Helper()
	if got, e := Open(data, now); got != want || e != why {
		t.Errorf("%s: %v, %d, want %v, %d", what, got, int(e), want, int(why))
	}
}

// wantClosed: that Open refuses, and why.
func wantClosed(t *testing.T, what string, data []byte, now int, why api.Errno) {
	t.Helper()
	wantOpen(t, what, data, now, api.Command{}, why)
}

// recordOf bytes, as a client sends it.
func recordOf(t *testing.T, client, number int, plain []byte) []byte {
	t.Helper()
	_, record, e := line.Send(api.Channel{Key: unhex(t, keys()[client]), Sent: number}, plain)
	if e != api.OK {
		t.Fatal(e)
	}
	return append([]byte{byte(client)}, record...)
}

// granted: the bytes of a token, though it may not be one that may be.
func granted(t *testing.T, client, rights byte, until uint32) []byte {
	t.Helper()
	head := []byte{client, rights, byte(until >> 24), byte(until >> 16), byte(until >> 8), byte(until)}
	mac, e := sha.Mac(unhex(t, issuerKey), head)
	if e != api.OK {
		t.Fatal(e)
	}
	return append(head, mac[:16]...)
}

// numbers: the bytes of a command, though it may not be one that may be.
func numbers(l ...int) []byte {
	var b []byte
	for _, n := range l {
		b = append(b, byte(n>>24), byte(n>>16), byte(n>>8), byte(n))
	}
	return b
}

// TestOpenWhatWasPacked: P12.3: what clients pack is opened again, up to the token's time.
func TestOpenWhatWasPacked(t *testing.T) {
	d := die(3)
	for range 200 {
		c := d.command()
		token := may(c.Client)
		token.Until = d.upTo(d.upTo(1) * api.MaxSlot)
		b, _ := Pack(d.upTo(api.MaxCounter-1), token, c)
		for _, now := range []int{0, token.Until / 2, token.Until} {
			wantOpen(t, fmt.Sprint(token), b, now, c, api.OK)
		}
		for _, now := range []int{-1, math.MinInt, token.Until + 1, math.MaxInt} {
			wantClosed(t, fmt.Sprint(token, now), b, now, api.ErrTime)
		}
	}
	for _, number := range []int{0, api.MaxCounter - 1} {
		for _, client := range []int{0, api.MaxClient} {
			b, _ := Pack(number, may(client), get(client, 0, 0))
			wantOpen(t, "at the edges", b, 0, get(client, 0, 0), api.OK)
		}
	}
}

// TestOpenRights: P12.3: the right that each command needs, and no other.
func TestOpenRights(t *testing.T) {
	for c, need := range map[api.Command]int{put(5, 1, 2, 3): api.MayWrite, get(5, 1, 2): api.MayRead, revoke(5, 1, 2): api.MayAdmin} {
		for rights := range 8 {
			b, _ := Pack(9, api.Token{Client: 5, Rights: rights, Until: 4}, c)
			if rights&need != 0 {
				wantOpen(t, fmt.Sprint(rights), b, 4, c, api.OK)
				wantClosed(t, fmt.Sprint(rights), b, 5, api.ErrTime)
			} else {
				wantClosed(t, fmt.Sprint(rights), b, 4, api.ErrRight)
				wantClosed(t, fmt.Sprint(rights), b, 5, api.ErrRight)
			}
		}
	}
}

// TestOpenBytes: P12.3: no bytes, a first byte that is no client's, and records that are too short, too long, or have no number that may be.
func TestOpenBytes(t *testing.T) {
	wantClosed(t, "nil", nil, 0, api.ErrShort)
	wantClosed(t, "no bytes", []byte{}, 0, api.ErrShort)
	wantClosed(t, "no bytes, at a wrong time", nil, -1, api.ErrShort)
	for first := range 256 {
		bare, why := []byte{byte(first)}, api.ErrShort
		if first > api.MaxClient {
			why = api.ErrRange
		}
		wantClosed(t, fmt.Sprint("the byte ", first), bare, 0, why)
		wantClosed(t, fmt.Sprint("the byte ", first, " and 19 more"), append(bare, make([]byte, 19)...), 0, why)
	}
	for client := range api.MaxClient + 1 {
		first := []byte{byte(client)}
		wantClosed(t, "20 noughts", append(first, make([]byte, 20)...), 0, api.ErrTag)
		wantClosed(t, "2020 noughts", append(first, make([]byte, 2020)...), 0, api.ErrTag)
		wantClosed(t, "2021 noughts", append(first, make([]byte, 2021)...), 0, api.ErrSize)
		wantClosed(t, "a great number", append(first, bytes.Repeat([]byte{64, 0, 0, 0}, 5)...), 0, api.ErrRange)
		wantClosed(t, "the greatest number", append(first, bytes.Repeat([]byte{255}, 2020)...), 0, api.ErrRange)
		wantClosed(t, "too long, and a great number", append(first, bytes.Repeat([]byte{255}, 2021)...), 0, api.ErrSize)
	}
	wantClosed(t, "no client's, and too long", append([]byte{8}, make([]byte, 3000)...), 0, api.ErrRange)
}

// TestOpenTorn: P12.3: what was packed, cut off at each place, or with more behind it.
func TestOpenTorn(t *testing.T) {
	b := packed(t, put(4, 1, 2, 3))
	wantOpen(t, "whole", b, 0, put(4, 1, 2, 3), api.OK)
	for n := range b {
		why := api.ErrTag
		if n < 21 {
			why = api.ErrShort
		}
		wantClosed(t, fmt.Sprint(n, " bytes of it"), b[:n], 0, why)
	}
	wantClosed(t, "a byte more", append(bytes.Clone(b), 0), 0, api.ErrTag)
	wantClosed(t, "it twice", append(bytes.Clone(b), b...), 0, api.ErrTag)
}

// TestOpenChanged: P12.3: what was packed, with each bit another, is refused; so is one that says that it is another client's.
func TestOpenChanged(t *testing.T) {
	b := packed(t, put(4, 1, 2, 3))
	for i := range b {
		for bit := range 8 {
			x := bytes.Clone(b)
			x[i] ^= 1 << bit
			why := api.ErrTag
			if i == 0 && x[0] > 7 || i == 1 && x[1] >= 64 {
				why = api.ErrRange
			}
			wantClosed(t, fmt.Sprint("the bit ", bit, " of the byte ", i), x, 0, why)
		}
	}
	for client := range api.MaxClient + 1 {
		if client != 4 {
			x := bytes.Clone(b)
			x[0] = byte(client)
			wantClosed(t, fmt.Sprint("as from the client ", client), x, 0, api.ErrTag)
		}
	}
}

// TestOpenLengths: P12.3: a client's record of bytes that are not 42.
func TestOpenLengths(t *testing.T) {
	what := append(granted(t, 1, 7, 9), numbers(1, 1, 0, 2, 77)...)
	wantOpen(t, "42", recordOf(t, 1, 0, what), 9, put(1, 0, 2, 77), api.OK)
	for n := range 42 {
		wantClosed(t, fmt.Sprint(n), recordOf(t, 1, 0, what[:n]), 9, api.ErrForm)
	}
	for _, n := range []int{43, 44, 62, 64, 84, 2000} {
		wantClosed(t, fmt.Sprint(n), recordOf(t, 1, 0, append(bytes.Clone(what), make([]byte, n-42)...)), 9, api.ErrForm)
	}
}

// TestOpenTokens: P12.3: tokens that nobody granted under the issuer's key, ones that may not be, and another client's.
func TestOpenTokens(t *testing.T) {
	what := numbers(1, 1, 0, 2, 77)
	good := granted(t, 1, 7, 9)
	for i := range good {
		for bit := range 8 {
			x := bytes.Clone(good)
			x[i] ^= 1 << bit
			wantClosed(t, fmt.Sprint("the bit ", bit, " of the byte ", i), recordOf(t, 1, 5, append(x, what...)), 0, api.ErrTag)
		}
	}
	for _, key := range append(keys(), "00000000000000000000000000000000000000000000000000000000000000ff") {
		x, _ := order.Grant(unhex(t, key), api.Token{Client: 1, Rights: 7, Until: 9})
		wantClosed(t, "another key", recordOf(t, 1, 5, append(x, what...)), 0, api.ErrTag)
	}
	for _, x := range [][]byte{granted(t, 8, 7, 9), granted(t, 255, 7, 9), granted(t, 1, 8, 9), granted(t, 1, 255, 9), granted(t, 1, 7, api.MaxSlot+1), granted(t, 1, 7, math.MaxUint32)} {
		wantClosed(t, fmt.Sprint("the token ", x[:6]), recordOf(t, 1, 5, append(x, what...)), 0, api.ErrRange)
	}
	for client := range byte(8) {
		if client != 1 {
			wantClosed(t, fmt.Sprint("the token of ", client), recordOf(t, 1, 5, append(granted(t, client, 7, 9), what...)), 0, api.ErrRight)
		}
	}
}

// TestOpenCommands: P12.3: commands that may not be, Noops, and another client's, whoever the token is of.
func TestOpenCommands(t *testing.T) {
	good := granted(t, 1, 7, 9)
	for _, x := range []struct {
		why api.Errno
		b   []byte
	}{
		{api.ErrKind, numbers(4, 1, 0, 0, 0)}, {api.ErrKind, numbers(math.MaxUint32, 1, 0, 0, 0)}, {api.ErrKind, numbers(256, 1, 0, 0, 0)},
		{api.ErrForm, numbers(0, 1, 0, 0, 0)}, {api.ErrForm, numbers(2, 1, 0, 0, 1)}, {api.ErrForm, numbers(3, 1, 0, 0, 1)}, {api.ErrForm, numbers(0, 0, 0, 0, 1)},
		{api.ErrRange, numbers(1, 8, 0, 0, 0)}, {api.ErrRange, numbers(1, 257, 0, 0, 0)}, {api.ErrRange, numbers(1, 1, api.MaxSeq+1, 0, 0)}, {api.ErrRange, numbers(1, 1, 0, 8, 0)}, {api.ErrRange, numbers(1, 1, 0, 0, api.MaxValue+1)}, {api.ErrRange, numbers(2, 1, 0, 0, api.MaxValue+1)},
		{api.ErrRight, numbers(1, 2, 0, 0, 0)}, {api.ErrRight, numbers(2, 0, 0, 0, 0)}, {api.ErrRight, numbers(3, 7, 0, 0, 0)},
		{api.ErrRight, numbers(0, 0, 0, 0, 0)},
	} {
		for _, now := range []int{0, 9, 10, -1} {
			wantClosed(t, fmt.Sprint(x.b), recordOf(t, 1, 5, append(bytes.Clone(good), x.b...)), now, x.why)
		}
	}
	for client := range api.MaxClient + 1 {
		noop, e := Pack(0, may(client), api.Command{})
		if e != api.OK {
			t.Fatal(e)
		}
		wantClosed(t, "a Noop", noop, 0, api.ErrRight)
		wantClosed(t, "a client's Noop", recordOf(t, client, 0, append(granted(t, byte(client), 7, 9), numbers(0, 0, 0, 0, 0)...)), 0, api.ErrRight)
		for other := range api.MaxClient + 1 {
			if other != client {
				b := append(granted(t, byte(other), 7, 9), numbers(2, other, 0, 0, 0)...)
				wantClosed(t, fmt.Sprint("a command of ", other, " from ", client), recordOf(t, client, 0, b), 0, api.ErrRight)
			}
		}
	}
}

// TestOpenFaultsTogether: P12.3: of all that is wrong the answer is what is named first.
func TestOpenFaultsTogether(t *testing.T) {
	const (
		first = 1 << iota
		torn
		long
		forged
		unknown
		others
		late
		all
	)
	for faults := range all {
		is := func(fault int) bool { return faults&fault != 0 }
		token, what, now, client := granted(t, 1, 7, 9), numbers(1, 1, 0, 2, 77), 9, 1
		if is(others) {
			client = 2
		}
		if is(forged) {
			token[21] ^= 1
		}
		if is(unknown) {
			what[3] = 9
		}
		if is(long) {
			what = append(what, 0)
		}
		if is(late) {
			now = 10
		}
		b := recordOf(t, client, 5, append(token, what...))
		if is(torn) {
			b = b[:20]
		}
		if is(first) {
			b[0] = 8
		}
		why := api.OK
		for i, x := range []api.Errno{api.ErrRange, api.ErrShort, api.ErrForm, api.ErrTag, api.ErrKind, api.ErrRight, api.ErrTime} {
			if is(1 << i) {
				why = x
				break
			}
		}
		var want api.Command
		if why == api.OK {
			want = put(1, 0, 2, 77)
		}
		wantOpen(t, fmt.Sprintf("faults %07b", faults), b, now, want, why)
	}
}
