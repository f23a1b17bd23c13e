package stable_test

import (
	"fmt"
	"testing"

	"conclave/api"
	"conclave/stable"
)

// promiseExamples: ballots and their records, worked out apart from the program.
var promiseExamples = []struct {
	what   api.Ballot
	record string
}{
	{at(1, 0), "09010000000100000000c669c3b1"},
	{at(1, 4), "090100000001000000040fa14126"},
	{at(258, 3), "0901000001020000000363d95913"},
	{at(65535, 1), "09010000ffff000000017294b22f"},
	{at(65536, 4), "0901000100000000000444397218"},
}

// voteExamples: votes and their records, worked out apart from the program.
var voteExamples = []struct {
	what   api.Vote
	record string
}{
	{api.Vote{Slot: 0, Ballot: at(1, 0)}, "210200000000000000010000000000000000000000000000000000000000000000001edda9e1"},
	{api.Vote{Slot: 39, Ballot: at(65536, 4), What: api.Command{Kind: api.Put, Client: 7, Seq: 1 << 20, Name: 7, Value: 1 << 30}}, "210200000027000100000000000400000001000000070010000000000007400000003ee5eada"},
	{vote(3, 258, 2, 77), "2102000000030000010200000002000000010000000100000002000000030000004ddc725417"},
	{api.Vote{Slot: 7, Ballot: at(5, 1), What: api.Command{Kind: api.Get, Client: 4, Seq: 65535, Name: 6}}, "210200000007000000050000000100000002000000040000ffff00000006000000007c8cd9f8"},
	{api.Vote{Slot: 20, Ballot: at(256, 3), What: api.Command{Kind: api.Revoke, Seq: 66051, Name: 5}}, "21020000001400000100000000030000000300000000000102030000000500000000e4a89f64"},
}

// wantPromise: a record stands behind all that is there, if there is room, and nothing more is synced.
func wantPromise(t *testing.T, x api.Tape, b api.Ballot, record []byte) {
	t.Helper()
	got, e := stable.Promise(x, b)
	what := fmt.Sprint("Promise of ", b, " on ", brief(x))
	if len(x.Data)+len(record) > api.MaxBytes {
		wantNoTape(t, what, got, e, api.ErrFull)
	} else {
		wantTape(t, what, got, e, tape(join(x.Data, record), x.Synced))
	}
}

// wantVote: as wantPromise, for a vote.
func wantVote(t *testing.T, x api.Tape, v api.Vote, record []byte) {
	t.Helper()
	got, e := stable.Vote(x, v)
	what := fmt.Sprint("Vote of ", v, " on ", brief(x))
	if len(x.Data)+len(record) > api.MaxBytes {
		wantNoTape(t, what, got, e, api.ErrFull)
	} else {
		wantTape(t, what, got, e, tape(join(x.Data, record), x.Synced))
	}
}

// TestPromiseOfExamples: P9.2, P9.3: the records of ballots, on tapes of any bytes, whatever is synced.
func TestPromiseOfExamples(t *testing.T) {
	for _, c := range promiseExamples {
		for _, x := range rightTapes() {
			wantPromise(t, x, c.what, unhex(c.record))
		}
	}
}

// TestVoteOfExamples: P9.2, P9.4: the records of votes, on tapes of any bytes, whatever is synced.
func TestVoteOfExamples(t *testing.T) {
	for _, c := range voteExamples {
		for _, x := range rightTapes() {
			wantVote(t, x, c.what, unhex(c.record))
		}
	}
}

// TestPromiseOfEdges: P9.3: ballots at the bounds. What is on the tape is not asked: a lower ballot is written behind a higher one.
func TestPromiseOfEdges(t *testing.T) {
	high := tape(promised(65536, 4), 3)
	for _, b := range standing {
		wantPromise(t, api.Tape{}, b, promised(b.Round, b.Node))
		wantPromise(t, high, b, promised(b.Round, b.Node))
	}
}

// TestVoteOfEdges: P9.4: votes at the bounds, behind nothing and behind a higher promise.
func TestVoteOfEdges(t *testing.T) {
	high := tape(promised(65536, 4), 14)
	for _, v := range rightVotes() {
		wantVote(t, api.Tape{}, v, voted(v))
		wantVote(t, high, v, voted(v))
	}
}

// TestRoom: P9.2: a record that just fits, and one that is too long by a byte and by more.
func TestRoom(t *testing.T) {
	v := vote(3, 258, 2, 77)
	for n := api.MaxBytes - 60; n <= api.MaxBytes; n++ {
		for _, synced := range []int{0, n} {
			x := tape(pattern(n, 5), synced)
			got, e := stable.Promise(x, at(258, 3))
			if n <= api.MaxBytes-14 {
				wantTape(t, fmt.Sprint("Promise behind ", n), got, e, tape(join(x.Data, unhex("0901000001020000000363d95913")), synced))
			} else {
				wantNoTape(t, fmt.Sprint("Promise behind ", n), got, e, api.ErrFull)
			}
			got, e = stable.Vote(x, v)
			if n <= api.MaxBytes-38 {
				wantTape(t, fmt.Sprint("Vote behind ", n), got, e, tape(join(x.Data, voted(v)), synced))
			} else {
				wantNoTape(t, fmt.Sprint("Vote behind ", n), got, e, api.ErrFull)
			}
		}
	}
}

// TestPromiseRefuses: P9.3: ballots that may not be.
func TestPromiseRefuses(t *testing.T) {
	for _, b := range wrongBallots {
		for _, x := range []api.Tape{{}, tape(promised(1, 0), 14), tape(pattern(api.MaxBytes-14, 3), 0)} {
			got, e := stable.Promise(x, b)
			wantNoTape(t, fmt.Sprint("Promise of ", b, " on ", brief(x)), got, e, api.ErrRange)
		}
	}
}

// TestVoteRefuses: P9.4: votes that may not be, whatever is wrong with their commands.
func TestVoteRefuses(t *testing.T) {
	for _, v := range wrongVotes() {
		for _, x := range []api.Tape{{}, tape(promised(1, 0), 14), tape(pattern(api.MaxBytes-38, 3), 0)} {
			got, e := stable.Vote(x, v)
			wantNoTape(t, fmt.Sprint("Vote of ", v, " on ", brief(x)), got, e, api.ErrRange)
		}
	}
}

// TestFullAheadOfRange: P9.2 to P9.4: where there is no room for a ballot or a vote that may not be, the room is named.
func TestFullAheadOfRange(t *testing.T) {
	for _, n := range []int{api.MaxBytes - 13, api.MaxBytes} {
		for _, b := range wrongBallots {
			got, e := stable.Promise(tape(pattern(n, 3), n), b)
			wantNoTape(t, fmt.Sprint("Promise of ", b, " behind ", n), got, e, api.ErrFull)
		}
	}
	for _, n := range []int{api.MaxBytes - 37, api.MaxBytes - 14, api.MaxBytes} {
		for _, v := range wrongVotes() {
			got, e := stable.Vote(tape(pattern(n, 3), n), v)
			wantNoTape(t, fmt.Sprint("Vote of ", v, " behind ", n), got, e, api.ErrFull)
		}
	}
}
