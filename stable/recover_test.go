package stable_test

import (
	"fmt"
	"testing"

	"conclave/api"
	"conclave/order"
	"conclave/stable"
)

// wantRecover: this acceptor comes of so many bytes, whatever is synced; and Repair leaves just these.
func wantRecover(t *testing.T, what string, data []byte, want api.Acceptor, whole int) {
	t.Helper()
	for _, synced := range []int{0, whole / 2, max(0, whole-1), whole, min(whole+1, len(data)), len(data)} {
		a, n, e := stable.Recover(tape(data, synced))
		if e != api.OK || n != whole || !same(a, want) {
			t.Fatalf("%s: Recover of %s: %v, %d, %d, want %v, %d", what, brief(tape(data, synced)), a, n, int(e), want, whole)
		}
		got, e := stable.Repair(tape(data, synced))
		wantTape(t, what+": Repair of "+brief(tape(data, synced)), got, e, tape(data[:whole], min(synced, whole)))
	}
}

// wantNoRecover: it is refused.
func wantNoRecover(t *testing.T, x api.Tape, want api.Errno) {
	t.Helper()
	if a, n, e := stable.Recover(x); e != want || n != 0 || !same(a, api.Acceptor{}) {
		t.Errorf("Recover of %s: %v, %d, %d, want nothing, %d", brief(x), a, n, int(e), int(want))
	}
}

// told: some records, and the acceptors that come of them, told by hand.
var told = []struct {
	record []byte
	then   api.Acceptor
}{
	{promised(1, 0), acceptor(at(1, 0))},
	{promised(1, 0), acceptor(at(1, 0))}, // the same once more is not below
	{voted(vote(5, 1, 0, 70)), acceptor(at(1, 0), vote(5, 1, 0, 70))},
	{promised(2, 3), acceptor(at(2, 3), vote(5, 1, 0, 70))},
	{voted(vote(0, 2, 3, 71)), acceptor(at(2, 3), vote(0, 2, 3, 71), vote(5, 1, 0, 70))},
	{voted(api.Vote{Slot: 39, Ballot: at(2, 4)}), acceptor(at(2, 4), vote(0, 2, 3, 71), vote(5, 1, 0, 70), api.Vote{Slot: 39, Ballot: at(2, 4)})},
	{voted(vote(5, 300, 1, 72)), acceptor(at(300, 1), vote(0, 2, 3, 71), vote(5, 300, 1, 72), api.Vote{Slot: 39, Ballot: at(2, 4)})},
	{promised(65536, 4), acceptor(at(65536, 4), vote(0, 2, 3, 71), vote(5, 300, 1, 72), api.Vote{Slot: 39, Ballot: at(2, 4)})},
}

// toldUpTo: the bytes of the first records, and the acceptor that comes of them.
func toldUpTo(count int) ([]byte, api.Acceptor) {
	var data []byte
	var a api.Acceptor
	for _, x := range told[:count] {
		data, a = join(data, x.record), x.then
	}
	return data, a
}

// behindAll: the records are told as far as they go, and what is behind them, wherever that is, ends it; whole records behind it are not looked at.
func behindAll(t *testing.T, what string, wrong []byte) {
	t.Helper()
	for count := range len(told) + 1 {
		data, a := toldUpTo(count)
		wantRecover(t, what, join(data, wrong), a, len(data))
		wantRecover(t, what, join(data, wrong, promised(65536, 4)), a, len(data))
		wantRecover(t, what, join(data, wrong, voted(vote(7, 65536, 4, 5)), promised(65536, 4)), a, len(data))
	}
}

// TestRecoverOfExamples: P9.7: nothing, and the bytes of examples, one by one.
func TestRecoverOfExamples(t *testing.T) {
	wantRecover(t, "nil", nil, api.Acceptor{}, 0)
	wantRecover(t, "none", []byte{}, api.Acceptor{}, 0)
	for _, c := range promiseExamples {
		wantRecover(t, fmt.Sprint(c.what), unhex(c.record), acceptor(c.what), 14)
	}
	for _, c := range voteExamples {
		wantRecover(t, fmt.Sprint(c.what), unhex(c.record), acceptor(c.what.Ballot, c.what), 38)
	}
}

// TestRecoverOfMany: P9.7: record by record.
func TestRecoverOfMany(t *testing.T) {
	for count := range len(told) + 1 {
		data, a := toldUpTo(count)
		wantRecover(t, fmt.Sprint(count, " records"), data, a, len(data))
	}
}

// TestRecoverOfEdges: P9.7: votes and ballots at the bounds.
func TestRecoverOfEdges(t *testing.T) {
	for _, b := range standing {
		wantRecover(t, fmt.Sprint(b), promised(b.Round, b.Node), acceptor(b), 14)
	}
	for _, v := range rightVotes() {
		wantRecover(t, fmt.Sprint(v), voted(v), acceptor(v.Ballot, v), 38)
	}
}

// TestRecoverOfFullTape: P9.7: as many records as a tape holds.
func TestRecoverOfFullTape(t *testing.T) {
	var data []byte
	a := acceptor(at(1, 0), make([]api.Vote, api.MaxSlots)...)
	for i := 0; len(data)+38 <= api.MaxBytes; i++ {
		v := vote(i%api.MaxSlots, 1+i, i%api.MaxNodes, i)
		a.Promised, a.Votes[v.Slot] = v.Ballot, v
		data = append(data, voted(v)...)
	}
	wantRecover(t, "full", data, a, len(data))
	torn := join(data, promised(65536, 4), promised(65536, 4))[:api.MaxBytes]
	a.Promised = at(65536, 4)
	wantRecover(t, "full and torn", torn, a, len(data)+14)
}

// TestRecoverOfTornTapes: P9.7, P9.8: a tape that ends in the midst of a record, at each place of it.
func TestRecoverOfTornTapes(t *testing.T) {
	for count, x := range told {
		ahead, a := toldUpTo(count)
		for n := range x.record {
			wantRecover(t, fmt.Sprint(count, " and ", n, " bytes"), join(ahead, x.record[:n]), a, len(ahead))
		}
	}
}

// TestRecoverOfAnyBit: P9.7: a record of which a bit is another, at each place: its length, its body, its sum.
func TestRecoverOfAnyBit(t *testing.T) {
	for count, x := range told {
		ahead, a := toldUpTo(count)
		for bit := range 8 * len(x.record) {
			wrong := join(x.record)
			wrong[bit/8] ^= 1 << (bit % 8)
			what := fmt.Sprint(count, " and a wrong bit ", bit)
			wantRecover(t, what, join(ahead, wrong), a, len(ahead))
			wantRecover(t, what, join(ahead, wrong, told[min(count+1, len(told)-1)].record), a, len(ahead))
		}
	}
}

// TestRecoverOfSums: P9.7: each of the four bytes counts, and their order.
func TestRecoverOfSums(t *testing.T) {
	for _, right := range [][]byte{promised(65536, 4), voted(vote(7, 65536, 4, 5))} {
		n := len(right)
		for i := n - 4; i < n; i++ {
			for _, add := range []byte{1, 128, 255} {
				wrong := join(right)
				wrong[i] += add
				behindAll(t, fmt.Sprint("a wrong byte ", i-n), wrong)
			}
		}
		behindAll(t, "noughts", join(right[:n-4], make([]byte, 4)))
		behindAll(t, "another order", join(right[:n-4], right[n-2:], right[n-4:n-2]))
		// the sum of the body alone, or of all but the last byte
		alone := framed(int(right[1]), right[2:n-4])
		behindAll(t, "the sum without the length", join(right[:n-4], alone[len(alone)-4:]))
		less := framed(int(right[0]), right[1:n-5])
		behindAll(t, "the sum without the last byte", join(right[:n-4], less[len(less)-4:]))
	}
}

// TestRecoverOfLengths: P9.7: a length that is not the body's, with the right sum of what stands there.
func TestRecoverOfLengths(t *testing.T) {
	promise, vote := promised(65536, 4), voted(vote(7, 65536, 4, 5))
	for _, right := range [][]byte{promise, vote} {
		body := right[1 : len(right)-4]
		for length := range 256 {
			if length != len(body) {
				behindAll(t, fmt.Sprint("the length ", length, " for ", len(body)), framed(length, body))
			}
		}
	}
}

// TestRecoverOfBodies: P9.7: whole records with the right sum, whose body begins with another byte, or is too short or too long for its kind.
func TestRecoverOfBodies(t *testing.T) {
	promise, vote := promised(65536, 4), voted(vote(7, 65536, 4, 5))
	for mark := range 256 {
		for _, right := range [][]byte{promise, vote} {
			body := join(right[1 : len(right)-4])
			if is := body[0]; int(is) != mark {
				body[0] = byte(mark)
				behindAll(t, fmt.Sprint("the mark ", mark, " for ", is), record(body))
			}
		}
	}
	behindAll(t, "no body", record(nil))
	for _, right := range [][]byte{promise, vote} {
		body := right[1 : len(right)-4]
		for n := 1; n < len(body); n++ {
			behindAll(t, fmt.Sprint(n, " bytes of ", len(body)), record(body[:n]))
		}
		for _, n := range []int{1, 2, 4, 20, 24, 255 - len(body)} {
			behindAll(t, fmt.Sprint(n, " bytes more than ", len(body)), record(join(body, make([]byte, n))))
		}
	}
}

// TestRecoverOfRefusedBallots: P9.7: whole records of ballots that may not be, or that are below what was promised.
func TestRecoverOfRefusedBallots(t *testing.T) {
	for _, b := range wrongBallots {
		if fits(b.Round) && fits(b.Node) {
			behindAll(t, fmt.Sprint("the ballot ", b), promised(b.Round, b.Node))
		}
	}
	behindAll(t, "rounds that are below 0 in 32 bits", promised(1<<32-1, 0))
	behindAll(t, "nodes that are below 0 in 32 bits", promised(1, 1<<32-1))
	for i, high := range standing {
		for k, b := range standing {
			data := join(promised(high.Round, high.Node), promised(b.Round, b.Node))
			want, whole := acceptor(b), 28
			if k < i {
				want, whole = acceptor(high), 14
			}
			wantRecover(t, fmt.Sprint(b, " behind ", high), data, want, whole)
			v := api.Vote{Slot: 7, Ballot: high, What: put(5)}
			data, want, whole = join(voted(v), promised(b.Round, b.Node)), acceptor(b, v), 52
			if k < i {
				want, whole = acceptor(high, v), 38
			}
			wantRecover(t, fmt.Sprint(b, " behind a vote of ", high), data, want, whole)
		}
	}
}

// fits: has a number four bytes?
func fits(n int) bool { return n >= 0 && n < 1<<32 }

// TestRecoverOfRefusedVotes: P9.7: whole records of votes that may not be, or that are below what was promised.
func TestRecoverOfRefusedVotes(t *testing.T) {
	for _, v := range wrongVotes() {
		c := v.What
		if fits(v.Slot) && fits(v.Ballot.Round) && fits(v.Ballot.Node) && fits(c.Kind) && fits(c.Client) && fits(c.Seq) && fits(c.Name) && fits(c.Value) {
			if v.Ballot == at(1, 0) { // so that it is not merely old
				v.Ballot = at(65536, 4)
			}
			behindAll(t, fmt.Sprint("the vote ", v), voted(v))
		}
	}
	for _, c := range wrongCommands {
		if order.Check(c) == api.OK {
			t.Fatalf("%v may be: the test says little", c)
		}
	}
	for i, high := range standing {
		for k, b := range standing {
			v := api.Vote{Slot: 7, Ballot: b, What: put(5)}
			data := join(promised(high.Round, high.Node), voted(v))
			want, whole := acceptor(b, v), 52
			if k < i {
				want, whole = acceptor(high), 14
			}
			wantRecover(t, fmt.Sprint(v, " behind ", high), data, want, whole)
		}
	}
}

// TestRecoverOfHoles: P9.7: whole records behind a place where there is none.
func TestRecoverOfHoles(t *testing.T) {
	for _, hole := range [][]byte{{0}, {1}, {9}, {33}, {255}, {0, 0, 0, 0, 0}, {9, 1}, {255, 255, 255, 255, 255}} {
		behindAll(t, fmt.Sprint("the hole ", hole), hole)
	}
	for count := 1; count < len(told); count++ {
		ahead, _ := toldUpTo(count)
		all, _ := toldUpTo(len(told))
		wantRecover(t, "the first byte is lost", all[1:], api.Acceptor{}, 0)
		_, a := toldUpTo(count)
		wantRecover(t, "a byte is lost", join(ahead, all[len(ahead)+1:]), a, len(ahead))
	}
}
