package stable_test

import (
	"bytes"
	"encoding/hex"
	"fmt"
	"math"
	"slices"
	"testing"

	"conclave/api"
	"conclave/sha"
	"conclave/stable"
)

// die: numbers that look drawn, the same each time.
type die uint64

func (d *die) upTo(most int) int {
	*d = *d*2862933555777941757 + 3037000493
	return int(uint64(*d>>33) % uint64(most+1))
}

// pattern: so many bytes, which differ from seed to seed.
func pattern(n, seed int) []byte {
	b := make([]byte, n)
	for i := range b {
		b[i] = byte((i*7 + seed*31 + 3) % 251)
	}
	return b
}

// join lists to a new one.
func join(lists ...[]byte) []byte { return bytes.Join(lists, nil) }

// unhex: the bytes that a text tells.
func unhex(s string) []byte {
	b, err := hex.DecodeString(s)
	if err != nil {
		panic(err)
	}
	return b
}

// tape of bytes, of which so many are synced.
func tape(data []byte, synced int) api.Tape { return api.Tape{Data: data, Synced: synced} }

// at: the ballot of a round and a node.
func at(round, node int) api.Ballot { return api.Ballot{Round: round, Node: node} }

// put: a command that differs from value to value.
func put(value int) api.Command {
	return api.Command{Kind: api.Put, Client: 1, Seq: 2, Name: 3, Value: value}
}

// vote for a put.
func vote(slot, round, node, value int) api.Vote {
	return api.Vote{Slot: slot, Ballot: at(round, node), What: put(value)}
}

// acceptor with what it has promised and voted for.
func acceptor(promised api.Ballot, votes ...api.Vote) api.Acceptor {
	return api.Acceptor{Promised: promised, Votes: votes}
}

// same: are two acceptors the same? A list without elements may be nil or not.
func same(a, b api.Acceptor) bool {
	return a.Promised == b.Promised && slices.Equal(a.Votes, b.Votes)
}

// four: numbers as four bytes each, the highest one first.
func four(numbers ...int) []byte {
	var b []byte
	for _, n := range numbers {
		for shift := 24; shift >= 0; shift -= 8 {
			b = append(b, byte(n>>shift))
		}
	}
	return b
}

// framed: a body with a byte ahead of it, whatever that is, and the sum of these.
func framed(length int, body []byte) []byte {
	b := join([]byte{byte(length)}, body)
	sum, e := sha.Sum(b)
	if e != api.OK {
		panic(e)
	}
	return join(b, sum[:4])
}

// record of a body.
func record(body []byte) []byte { return framed(len(body), body) }

// promised: the record of numbers as of a ballot, whether it may be or not.
func promised(round, node int) []byte { return record(join([]byte{1}, four(round, node))) }

// voted: the record of numbers as of a vote, whether it may be or not.
func voted(v api.Vote) []byte {
	c := v.What
	return record(join([]byte{2}, four(v.Slot, v.Ballot.Round, v.Ballot.Node, c.Kind, c.Client, c.Seq, c.Name, c.Value)))
}

// wantTape: this tape is answered, and nothing is wrong.
func wantTape(t *testing.T, what string, got api.Tape, e api.Errno, want api.Tape) {
	t.Helper()
	if e != api.OK || !bytes.Equal(got.Data, want.Data) || got.Synced != want.Synced {
		t.Errorf("%s: %s, %d, want %s", what, brief(got), int(e), brief(want))
	}
}

// wantNoTape: it is refused.
func wantNoTape(t *testing.T, what string, got api.Tape, e, want api.Errno) {
	t.Helper()
	if e != want || len(got.Data) != 0 || got.Synced != 0 {
		t.Errorf("%s: %s, %d, want nothing, %d", what, brief(got), int(e), int(want))
	}
}

// brief: a tape as a text that is not too long.
func brief(t api.Tape) string {
	return fmt.Sprintf("%d bytes (the last %v), %d synced", len(t.Data), t.Data[max(0, len(t.Data)-80):], t.Synced)
}

// standing: ballots that may be, each above the one ahead of it, with Round and Node at their bounds.
var standing = []api.Ballot{
	at(1, 0), at(1, 1), at(1, 4), at(2, 0), at(2, 4), at(3, 2), at(255, 4), at(256, 0), at(65535, 0), at(65535, 4), at(65536, 0), at(65536, 4),
}

// wrongBallots: ballots that may not be, with one or two numbers beyond their bounds.
var wrongBallots = []api.Ballot{
	at(0, 0), at(0, 1), at(0, 4), at(0, 5), at(0, -1),
	at(-1, 0), at(-1, 4), at(-65536, 2), at(math.MinInt, 0),
	at(65537, 0), at(65537, 4), at(1<<17, 1), at(1<<17+1, 0), at(1<<24+1, 0), at(1<<31+1, 0), at(1<<32+1, 0), at(math.MaxInt, 0),
	at(1, -1), at(1, 5), at(65536, -1), at(65536, 5), at(7, 1<<8), at(7, 1<<16), at(7, 1<<24), at(7, 1<<31), at(7, 1<<32), at(7, math.MinInt), at(7, math.MaxInt),
	at(65537, 5), at(-1, -1), at(math.MaxInt, math.MinInt),
}

// wrongCommands: commands that may not be, of each error.
var wrongCommands = []api.Command{
	{Kind: -1}, {Kind: 4}, {Kind: 1<<32 + 1}, {Kind: math.MaxInt},
	{Client: 1}, {Seq: 1}, {Name: 1}, {Value: 1}, {Value: -1},
	{Kind: api.Put, Client: 8}, {Kind: api.Put, Client: -1}, {Kind: api.Put, Seq: 1<<20 + 1}, {Kind: api.Put, Name: 8}, {Kind: api.Put, Value: 1<<30 + 1}, {Kind: api.Put, Value: 1 << 32}, {Kind: api.Put, Value: -1},
	{Kind: api.Get, Value: 1}, {Kind: api.Get, Name: 8}, {Kind: api.Revoke, Value: 1}, {Kind: api.Revoke, Name: 8}, {Kind: api.Revoke, Seq: -1},
}

// wrongVotes: votes that may not be: by slot, by ballot, by command, and by all of them.
func wrongVotes() []api.Vote {
	out := []api.Vote{{}, {Slot: 40, Ballot: at(65537, 5), What: api.Command{Kind: 4}}}
	for _, slot := range []int{-1, -40, math.MinInt, 40, 41, 1 << 8, 1 << 16, 1 << 24, 1 << 31, 1 << 32, math.MaxInt} {
		out = append(out, vote(slot, 1, 0, 5))
	}
	for _, b := range wrongBallots {
		out = append(out, api.Vote{Slot: 3, Ballot: b, What: put(5)})
	}
	for _, c := range wrongCommands {
		out = append(out, api.Vote{Slot: 3, Ballot: at(1, 0), What: c})
	}
	return out
}

// rightVotes: votes that may be, at the bounds of slots, ballots and commands.
func rightVotes() []api.Vote {
	var out []api.Vote
	for _, b := range standing {
		for _, slot := range []int{0, 1, 38, 39} {
			for _, c := range []api.Command{
				{}, put(0), put(1 << 30), {Kind: api.Get}, {Kind: api.Revoke},
				{Kind: api.Put, Client: 7, Seq: 1 << 20, Name: 7, Value: 1 << 30},
				{Kind: api.Get, Client: 7, Seq: 1 << 20, Name: 7},
				{Kind: api.Revoke, Client: 7, Seq: 1 << 20, Name: 7},
			} {
				out = append(out, api.Vote{Slot: slot, Ballot: b, What: c})
			}
		}
	}
	return out
}

// rightTapes: tapes that may be, whatever stands on them, at the bounds of bytes and of Synced.
func rightTapes() []api.Tape {
	out := []api.Tape{{}, tape([]byte{}, 0)}
	for _, n := range []int{1, 2, 14, 38, 52, 500, api.MaxBytes - 38, api.MaxBytes - 14, api.MaxBytes - 1, api.MaxBytes} {
		for _, synced := range []int{0, 1, n / 2, n - 1, n} {
			out = append(out, tape(pattern(n, n), synced))
		}
	}
	return out
}

// wrongTapes: tapes that may not be, by their bytes and by Synced.
func wrongTapes() []api.Tape {
	var out []api.Tape
	for _, data := range [][]byte{nil, {}, {9}, promised(1, 0), join(promised(1, 0), voted(vote(0, 1, 0, 5))), pattern(api.MaxBytes, 1)} {
		for _, synced := range []int{-1, -2, math.MinInt, len(data) + 1, len(data) + 2, 1 << 32, math.MaxInt} {
			out = append(out, tape(data, synced))
		}
	}
	for _, n := range []int{api.MaxBytes + 1, api.MaxBytes + 2, 2 * api.MaxBytes} {
		for _, synced := range []int{-1, 0, 1, api.MaxBytes, n, n + 1} {
			out = append(out, tape(pattern(n, 2), synced))
		}
	}
	return out
}

// TestWrongTapes: P9.1: tapes that may not be, at every call, ahead of all else.
func TestWrongTapes(t *testing.T) {
	for _, x := range wrongTapes() {
		what := brief(x)
		for _, b := range append(wrongBallots, at(1, 0), at(65536, 4)) {
			got, e := stable.Promise(x, b)
			wantNoTape(t, fmt.Sprint("Promise of ", b, " on ", what), got, e, api.ErrState)
		}
		for _, v := range append(wrongVotes(), vote(0, 1, 0, 5)) {
			got, e := stable.Vote(x, v)
			wantNoTape(t, fmt.Sprint("Vote of ", v, " on ", what), got, e, api.ErrState)
		}
		got, e := stable.Sync(x)
		wantNoTape(t, "Sync of "+what, got, e, api.ErrState)
		for _, keep := range []int{-1, math.MinInt, 0, 1, math.MaxInt} {
			got, e = stable.Crash(x, keep)
			wantNoTape(t, fmt.Sprint("Crash with ", keep, " of ", what), got, e, api.ErrState)
		}
		got, e = stable.Repair(x)
		wantNoTape(t, "Repair of "+what, got, e, api.ErrState)
		wantNoRecover(t, x, api.ErrState)
	}
}

// TestRightTapes: P9.1: tapes at the bounds are taken by every call that needs no room.
func TestRightTapes(t *testing.T) {
	for _, x := range rightTapes() {
		_, e := stable.Sync(x)
		_, f := stable.Crash(x, 0)
		_, _, g := stable.Recover(x)
		_, h := stable.Repair(x)
		if e != api.OK || f != api.OK || g != api.OK || h != api.OK {
			t.Errorf("%s: Sync %d, Crash %d, Recover %d, Repair %d", brief(x), int(e), int(f), int(g), int(h))
		}
	}
}
