package moot

import (
	"encoding/hex"
	"math"
	"testing"

	"conclave/api"
	"conclave/line"
	"conclave/order"
)

// TestPackOfExamples: P12.2: bytes that were worked out apart from the program, at the least and the greatest numbers, with tokens that do not allow the command, and of a Noop.
func TestPackOfExamples(t *testing.T) {
	for _, x := range []struct {
		number int
		token  api.Token
		what   api.Command
		want   string
	}{
		{0, api.Token{Client: 1, Rights: api.MayWrite, Until: 9}, put(1, 0, 2, 77),
			"0100000000a294da9f2e201ce5b6ce482c3bfbfe8649a7c93bd49ac048e6f6523586810a62276c3f285cfeee84eaf8dc9d3dfe90448c35e2d22c07c9c663e4"},
		{0, api.Token{}, put(0, 0, 0, 0),
			"0000000000a1f4e42dfab59f12193dda82da17c0405a2d1cdd0f6eb621d25561138dfc9709d96e803b82ff04fd48aab451c811f1310fa9de32be5c204ec0fd"},
		{api.MaxCounter - 1, may(7), revoke(7, api.MaxSeq, 7),
			"073fffffffe1fae40d9016afc05d6da23ed8eac0a121c3e5d841aa7eedbcc68eca7bfe75a94c94575b30b34b69b3af09f55fb9fe30f43e5432da89b3225e55"},
		{7, api.Token{Client: 1, Rights: api.MayRead, Until: 3}, get(2, 5, 0),
			"020000000707ebb0b3ba2af250d3e3fc6c7d111ac8ec38c7dd8b53218caa414ee312066170376c76fb349e8225ebe5958646754257e317af3d7e9344fdbbe1"},
		{258, api.Token{Rights: api.MayAdmin, Until: 5}, api.Command{},
			"0000000102a6209e52cacef2d49a897b0ceabd09dccb6cc38b1ca44c226e77761590caa5a72bce2f4340f7efc17fc80e30565c0e885ec72fa087766b547c06"},
		{65537, api.Token{Client: 3, Rights: api.MayWrite, Until: 40}, put(3, api.MaxSeq, 7, api.MaxValue),
			"030001000182e333342728e3668fa6c9ceda61a2e36c6a070a8c51754b101340be1d4a484893b9b23fd8453e8008b774db89760d788685fe20a3e8a2c28e4d"},
	} {
		got, e := Pack(x.number, x.token, x.what)
		if e != api.OK || hex.EncodeToString(got) != x.want {
			t.Errorf("%d, %v, %v: %x, %d, want %s, 0", x.number, x.token, x.what, got, int(e), x.want)
		}
	}
}

// TestPackByLayers: P12.2: a byte with the client, and the record that a channel with its key sends.
func TestPackByLayers(t *testing.T) {
	d := die(2)
	for range 200 {
		number := d.upTo(api.MaxCounter - 1)
		token := api.Token{Client: d.upTo(7), Rights: d.upTo(7), Until: d.upTo(api.MaxSlot)}
		c := d.command()
		granted, _ := order.Grant(unhex(t, issuerKey), token)
		what, _ := order.Encode(c)
		_, record, _ := line.Send(api.Channel{Key: unhex(t, keys()[c.Client]), Sent: number}, append(granted, what...))
		want := hex.EncodeToString(append([]byte{byte(c.Client)}, record...))
		if got, e := Pack(number, token, c); e != api.OK || hex.EncodeToString(got) != want {
			t.Fatalf("%d, %v, %v: %x, %d, want %s, 0", number, token, c, got, int(e), want)
		}
	}
}

// command that looks drawn.
func (d *die) command() api.Command {
	c := api.Command{Kind: 1 + d.upTo(2), Client: d.upTo(7), Seq: d.upTo(api.MaxSeq), Name: d.upTo(7)}
	if c.Kind == api.Put {
		c.Value = d.upTo(api.MaxValue)
	}
	return c
}

// wantPack: what Pack refuses, and answers nothing else.
func wantPack(t *testing.T, number int, token api.Token, c api.Command, want api.Errno) {
	t.Helper()
	got, e := Pack(number, token, c)
	if e != want || want != api.OK && len(got) != 0 {
		t.Errorf("%d, %v, %v: %x, %d, want %d", number, token, c, got, int(e), int(want))
	}
}

// TestPackNumbers: P12.2: numbers about 0 and MaxCounter.
func TestPackNumbers(t *testing.T) {
	for _, number := range []int{0, 1, api.MaxCounter - 2, api.MaxCounter - 1} {
		wantPack(t, number, may(1), put(1, 0, 0, 0), api.OK)
	}
	for _, number := range []int{-1, -2, api.MaxCounter, api.MaxCounter + 1, 1 << 32, math.MinInt, math.MaxInt} {
		wantPack(t, number, may(1), put(1, 0, 0, 0), api.ErrRange)
	}
}

// wrongTokens: tokens that may not be.
func wrongTokens() []api.Token {
	return []api.Token{{Client: -1}, {Client: 8}, {Client: 256}, {Rights: -1}, {Rights: 8}, {Until: -1}, {Until: api.MaxSlot + 1}, {Client: math.MaxInt, Rights: math.MinInt, Until: math.MaxInt}}
}

// wrongCommands: commands that may not be, and why.
func wrongCommands() map[api.Command]api.Errno {
	return map[api.Command]api.Errno{
		{Kind: 4}: api.ErrKind, {Kind: -1}: api.ErrKind, {Kind: math.MaxInt, Client: 99}: api.ErrKind,
		{Client: 1}: api.ErrForm, {Client: 8}: api.ErrForm, {Value: -1}: api.ErrForm, {Kind: api.Get, Value: 1}: api.ErrForm, {Kind: api.Revoke, Value: 7}: api.ErrForm,
		put(8, 0, 0, 0): api.ErrRange, put(-1, 0, 0, 0): api.ErrRange, put(256, 0, 0, 0): api.ErrRange, put(0, -1, 0, 0): api.ErrRange, put(0, api.MaxSeq+1, 0, 0): api.ErrRange,
		get(0, 0, 8): api.ErrRange, revoke(0, 0, 8): api.ErrRange, put(0, 0, 0, api.MaxValue+1): api.ErrRange, put(0, 0, 0, -1): api.ErrRange,
	}
}

// TestPackRefuses: P12.2: a token that may not be, then a command that may not be.
func TestPackRefuses(t *testing.T) {
	for _, token := range wrongTokens() {
		wantPack(t, 0, token, put(1, 0, 0, 0), api.ErrRange)
	}
	for c, want := range wrongCommands() {
		wantPack(t, 0, may(1), c, want)
		wantPack(t, api.MaxCounter, may(1), c, api.ErrRange)
		for _, token := range wrongTokens() {
			wantPack(t, 0, token, c, api.ErrRange)
			wantPack(t, -1, token, c, api.ErrRange)
		}
	}
}

// TestPackOfClients: P12.2: clients at their edges; the token may be another's.
func TestPackOfClients(t *testing.T) {
	for client := range api.MaxClient + 1 {
		for other := range api.MaxClient + 1 {
			b, e := Pack(3, may(other), get(client, 1, 2))
			if e != api.OK || len(b) != 63 || b[0] != byte(client) {
				t.Errorf("the client %d with a token of %d: %x, %d", client, other, b, int(e))
			}
		}
	}
}
