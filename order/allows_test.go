package order_test

import (
	"math"
	"testing"

	"conclave/api"
	"conclave/order"
)

// wantAllows: what is said of a command under a token at a time.
func wantAllows(t *testing.T, token api.Token, c api.Command, now int, want api.Errno) {
	t.Helper()
	if e := order.Allows(token, c, now); e != want {
		t.Errorf("%v of %v at %d: %d, want %d", token, c, now, int(e), int(want))
	}
}

// TestAllowsOfRights: P7.7: what each set of rights allows of each kind, told by hand.
func TestAllowsOfRights(t *testing.T) {
	const no = api.ErrRight
	for rights, want := range [8]struct{ put, get, revoke api.Errno }{
		0: {no, no, no},
		1: {no, 0, no},
		2: {0, no, no},
		3: {0, 0, no},
		4: {no, no, 0},
		5: {no, 0, 0},
		6: {0, no, 0},
		7: {0, 0, 0},
	} {
		for client := range api.MaxClient + 1 {
			token := api.Token{Client: client, Rights: rights, Until: 9}
			for name := range api.Names {
				wantAllows(t, token, put(client, 4, name, 77), 5, want.put)
				wantAllows(t, token, put(client, 4, name, 0), 5, want.put)
				wantAllows(t, token, get(client, 4, name), 5, want.get)
				wantAllows(t, token, revoke(client, 4, name), 5, want.revoke)
			}
			wantAllows(t, token, api.Command{}, 5, no)
		}
	}
}

// TestAllowsOfEdges: P7.7: whatever else a command and a token are, all rights allow all kinds but a Noop.
func TestAllowsOfEdges(t *testing.T) {
	for _, c := range rightCommands() {
		for _, until := range []int{0, api.MaxSlot} {
			token := api.Token{Client: c.Client, Rights: 7, Until: until}
			want := api.OK
			if c.Kind == api.Noop {
				want = api.ErrRight
			}
			wantAllows(t, token, c, 0, want)
			wantAllows(t, token, c, until, want)
		}
	}
}

// TestAllowsOfOthers: P7.7: another client's command, whatever the rights are.
func TestAllowsOfOthers(t *testing.T) {
	for client := range api.MaxClient + 1 {
		for other := range api.MaxClient + 1 {
			want := api.OK
			if other != client {
				want = api.ErrRight
			}
			token := api.Token{Client: client, Rights: 7, Until: 3}
			wantAllows(t, token, put(other, 0, client, 0), 1, want)
			wantAllows(t, token, get(other, 0, client), 1, want)
			wantAllows(t, token, revoke(other, 0, client), 1, want)
		}
	}
}

// TestAllowsOfTimes: P7.7: times about 0 and about Until.
func TestAllowsOfTimes(t *testing.T) {
	for _, until := range []int{0, 1, 2, 40, api.MaxSlot - 1, api.MaxSlot} {
		token := api.Token{Client: 2, Rights: 7, Until: until}
		for _, c := range []api.Command{put(2, 0, 1, 5), get(2, 0, 1), revoke(2, 0, 1)} {
			for _, now := range []int{0, until / 2, max(0, until-1), until} {
				wantAllows(t, token, c, now, api.OK)
			}
			for _, now := range []int{-1, -2, -until - 1, math.MinInt32, math.MinInt, until + 1, until + 2, 1 << 21, 1 << 32, 1<<32 + until, math.MaxInt} {
				wantAllows(t, token, c, now, api.ErrTime)
			}
		}
	}
}

// TestAllowsOfWrongTokens: P7.4, P7.7: a token that may not be, ahead of all else.
func TestAllowsOfWrongTokens(t *testing.T) {
	for _, token := range wrongTokens() {
		for _, now := range []int{-1, 0, token.Until, math.MaxInt} {
			wantAllows(t, token, get(0, 0, 0), now, api.ErrRange)
			wantAllows(t, token, put(token.Client, 0, 0, 0), now, api.ErrRange)
			wantAllows(t, token, api.Command{}, now, api.ErrRange)
			wantAllows(t, token, api.Command{Kind: 4}, now, api.ErrRange)
			wantAllows(t, token, api.Command{Kind: api.Get, Value: 1}, now, api.ErrRange)
		}
	}
}

// TestAllowsOfWrongCommands: P7.7: what Check refuses, ahead of rights and times.
func TestAllowsOfWrongCommands(t *testing.T) {
	for _, c := range wrongCommands() {
		for _, token := range []api.Token{{}, {Rights: 7, Until: 9}, {Client: 7, Rights: 7, Until: 9}, {Client: 3, Rights: 0, Until: api.MaxSlot}} {
			for _, now := range []int{-1, 0, 9, 10, math.MaxInt} {
				wantAllows(t, token, c.what, now, c.want)
			}
		}
	}
}

// TestAllowsOfRightAheadOfTime: P7.7: where a right is lacking and the time is wrong, the right is named.
func TestAllowsOfRightAheadOfTime(t *testing.T) {
	for _, now := range []int{-1, 10, math.MinInt, math.MaxInt} {
		wantAllows(t, api.Token{Client: 2, Rights: 7, Until: 9}, api.Command{}, now, api.ErrRight)
		wantAllows(t, api.Token{Client: 0, Rights: 7, Until: 9}, api.Command{}, now, api.ErrRight)
		wantAllows(t, api.Token{Client: 2, Rights: 7, Until: 9}, put(3, 0, 0, 0), now, api.ErrRight)
		wantAllows(t, api.Token{Client: 2, Rights: 5, Until: 9}, put(2, 0, 0, 0), now, api.ErrRight)
		wantAllows(t, api.Token{Client: 2, Rights: 6, Until: 9}, get(2, 0, 0), now, api.ErrRight)
		wantAllows(t, api.Token{Client: 2, Rights: 3, Until: 9}, revoke(2, 0, 0), now, api.ErrRight)
	}
}

// TestGrantedAndAllowed: what comes of it: what a token says when it is proved is what it allows.
func TestGrantedAndAllowed(t *testing.T) {
	key := pattern(32, 6)
	for _, token := range rightTokens() {
		proved, e := order.Prove(key, grant(t, key, token))
		if e != api.OK {
			t.Fatalf("%v: %d", token, int(e))
		}
		for _, c := range []api.Command{put(3, 1, 2, 3), get(3, 1, 2), revoke(3, 1, 2)} {
			for _, now := range []int{-1, 0, token.Until, token.Until + 1} {
				wantAllows(t, proved, c, now, order.Allows(token, c, now))
			}
		}
	}
}
