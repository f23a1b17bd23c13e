package paxos_test

import (
	"testing"

	"conclave/api"
	"conclave/paxos"
)

// wantAccept: the acceptor that comes of it.
func wantAccept(t *testing.T, a api.Acceptor, v api.Vote, want api.Acceptor) {
	t.Helper()
	if got, e := paxos.Accept(a, v); e != api.OK || !same(got, want) {
		t.Errorf("%v votes %v: %v, %d, want %v", a, v, got, int(e), want)
	}
}

// wantNoAccept: it is refused.
func wantNoAccept(t *testing.T, a api.Acceptor, v api.Vote, want api.Errno) {
	t.Helper()
	if got, e := paxos.Accept(a, v); e != want || !isNothing(got) {
		t.Errorf("%v votes %v: %v, %d, want nothing, %d", a, v, got, int(e), int(want))
	}
}

// TestAcceptOfExamples: P8.5: where a vote comes to stand, told by hand.
func TestAcceptOfExamples(t *testing.T) {
	a, b, c := vote(3, 1, 0, 10), vote(5, 2, 1, 11), vote(8, 1, 4, 12)
	before := acceptor(at(4, 2), a, b, c)
	for _, x := range []struct {
		before api.Acceptor
		v      api.Vote
		want   []api.Vote
	}{
		{api.Acceptor{}, vote(0, 4, 2, 9), []api.Vote{vote(0, 4, 2, 9)}},
		{api.Acceptor{}, vote(39, 4, 2, 9), []api.Vote{vote(39, 4, 2, 9)}},
		{before, vote(0, 4, 2, 9), []api.Vote{vote(0, 4, 2, 9), a, b, c}},
		{before, vote(2, 4, 2, 9), []api.Vote{vote(2, 4, 2, 9), a, b, c}},
		{before, vote(3, 4, 2, 9), []api.Vote{vote(3, 4, 2, 9), b, c}},
		{before, vote(4, 4, 3, 9), []api.Vote{a, vote(4, 4, 3, 9), b, c}},
		{before, vote(5, 4, 3, 9), []api.Vote{a, vote(5, 4, 3, 9), c}},
		{before, vote(6, 5, 0, 9), []api.Vote{a, b, vote(6, 5, 0, 9), c}},
		{before, vote(7, 5, 0, 9), []api.Vote{a, b, vote(7, 5, 0, 9), c}},
		{before, vote(8, 5, 0, 9), []api.Vote{a, b, vote(8, 5, 0, 9)}},
		{before, vote(9, 5, 0, 9), []api.Vote{a, b, c, vote(9, 5, 0, 9)}},
		{before, vote(39, 5, 0, 9), []api.Vote{a, b, c, vote(39, 5, 0, 9)}},
	} {
		wantAccept(t, x.before, x.v, acceptor(x.v.Ballot, x.want...))
	}
}

// TestAcceptOfAgain: P8.5: the same ballot may be voted for once more, for the same command and for another.
func TestAcceptOfAgain(t *testing.T) {
	before := acceptor(at(4, 2), vote(3, 4, 2, 10))
	wantAccept(t, before, vote(3, 4, 2, 10), before)
	wantAccept(t, before, vote(3, 4, 2, 11), acceptor(at(4, 2), vote(3, 4, 2, 11)))
	wantAccept(t, before, api.Vote{Slot: 3, Ballot: at(4, 2)}, acceptor(at(4, 2), api.Vote{Slot: 3, Ballot: at(4, 2)}))
}

// TestAcceptOfEdges: P8.2, P8.5: votes at the bounds, by who has promised nothing, and by who has promised just this.
func TestAcceptOfEdges(t *testing.T) {
	for _, b := range standing {
		for _, v := range rightVotes(b) {
			wantAccept(t, api.Acceptor{}, v, acceptor(b, v))
			wantAccept(t, acceptor(b), v, acceptor(b, v))
		}
	}
}

// TestAcceptOfStanding: P8.1, P8.5: a vote below what was promised is old, by Round, of the same Round by Node; else its ballot is promised.
func TestAcceptOfStanding(t *testing.T) {
	other, next := vote(0, 1, 0, 5), vote(39, 1, 0, 6)
	for i, promised := range standing {
		for k, b := range standing {
			v := api.Vote{Slot: 7, Ballot: b, What: put(9)}
			if k < i {
				wantNoAccept(t, acceptor(promised), v, api.ErrOld)
				wantNoAccept(t, acceptor(promised, other, next), v, api.ErrOld)
			} else {
				wantAccept(t, acceptor(promised), v, acceptor(b, v))
				wantAccept(t, acceptor(promised, other, next), v, acceptor(b, other, v, next))
			}
		}
	}
}

// TestAcceptOfAnyOrder: P8.5: votes for slots in any order, and for some of them once more, stand by their slots.
func TestAcceptOfAnyOrder(t *testing.T) {
	for seed := range 40 {
		d := die(seed)
		var a api.Acceptor
		var last [api.MaxSlots]api.Vote // by slots; of Round 0, if there was none
		for i := range 100 {
			v := vote(d.upTo(39), 1+i/7, i%7%5, i)
			if i%7 > 4 {
				v.Ballot.Node = 4
			}
			got, e := paxos.Accept(a, v)
			if e != api.OK {
				t.Fatalf("seed %d: %v votes %v: %d", seed, a, v, int(e))
			}
			last[v.Slot] = v
			var votes []api.Vote
			for _, x := range last {
				if x.Ballot.Round > 0 {
					votes = append(votes, x)
				}
			}
			if a = got; !same(a, acceptor(v.Ballot, votes...)) {
				t.Fatalf("seed %d: %v, want the votes %v", seed, a, votes)
			}
			if e := paxos.Check(a); e != api.OK {
				t.Fatalf("seed %d: %v: %d", seed, a, int(e))
			}
		}
	}
}

// TestAcceptOfFull: P8.5: who has a vote for each slot votes for each once more.
func TestAcceptOfFull(t *testing.T) {
	for slot := range api.MaxSlots {
		votes := everySlot(3)
		votes[slot] = vote(slot, 3, 4, 99)
		wantAccept(t, acceptor(at(3, 4), everySlot(3)...), votes[slot], acceptor(at(3, 4), votes...))
	}
}

// TestAcceptOfWrongVotes: P8.2, P8.5: votes that may not be, ahead of their being old.
func TestAcceptOfWrongVotes(t *testing.T) {
	for _, v := range wrongVotes() {
		wantNoAccept(t, api.Acceptor{}, v, api.ErrRange)
		wantNoAccept(t, acceptor(at(3, 2), vote(1, 1, 0, 5)), v, api.ErrRange)
		wantNoAccept(t, acceptor(at(65536, 4), everySlot(1)...), v, api.ErrRange)
	}
}

// TestAcceptOfWrongAcceptors: P8.3: acceptors that may not be, ahead of all else.
func TestAcceptOfWrongAcceptors(t *testing.T) {
	for _, a := range wrongAcceptors() {
		for _, v := range []api.Vote{vote(3, 65536, 4, 5), vote(39, 1, 0, 5), {}, vote(40, 65537, 5, -1), {Slot: 2, Ballot: a.Promised}} {
			wantNoAccept(t, a, v, api.ErrState)
		}
	}
}
