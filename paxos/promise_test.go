package paxos_test

import (
	"slices"
	"testing"

	"conclave/api"
	"conclave/paxos"
)

// wantPromise: the acceptor and the votes that come of it.
func wantPromise(t *testing.T, a api.Acceptor, b api.Ballot) {
	t.Helper()
	got, told, e := paxos.Promise(a, b)
	if e != api.OK || !same(got, acceptor(b, a.Votes...)) || !slices.Equal(told, a.Votes) {
		t.Errorf("%v promises %v: %v, %v, %d", a, b, got, told, int(e))
	}
}

// wantNoPromise: it is refused.
func wantNoPromise(t *testing.T, a api.Acceptor, b api.Ballot, want api.Errno) {
	t.Helper()
	got, told, e := paxos.Promise(a, b)
	if e != want || !isNothing(got) || len(told) != 0 {
		t.Errorf("%v promises %v: %v, %v, %d, want nothing, %d", a, b, got, told, int(e), int(want))
	}
}

// TestPromiseOfAny: P8.4: acceptors of any kind promise a ballot that is just what they have promised, or above it, and tell all their votes.
func TestPromiseOfAny(t *testing.T) {
	for _, a := range rightAcceptors() {
		wantPromise(t, a, at(65536, 4))
		if a.Promised != (api.Ballot{}) {
			wantPromise(t, a, a.Promised)
		}
	}
}

// TestPromiseOfStanding: P8.1, P8.4: a ballot below what was promised is old, by Round, of the same Round by Node.
func TestPromiseOfStanding(t *testing.T) {
	for i, promised := range standing {
		for k, b := range standing {
			for _, a := range []api.Acceptor{acceptor(promised), acceptor(promised, vote(0, 1, 0, 5), vote(39, 1, 0, 6))} {
				if k < i {
					wantNoPromise(t, a, b, api.ErrOld)
				} else {
					wantPromise(t, a, b)
				}
			}
		}
	}
}

// TestPromiseOfFirst: P8.4: who has promised nothing promises any ballot that may be.
func TestPromiseOfFirst(t *testing.T) {
	for _, b := range standing {
		wantPromise(t, api.Acceptor{}, b)
	}
}

// TestPromiseOfWrongBallots: P8.1, P8.4: ballots that may not be, ahead of their being old.
func TestPromiseOfWrongBallots(t *testing.T) {
	for _, b := range wrongBallots {
		wantNoPromise(t, api.Acceptor{}, b, api.ErrRange)
		wantNoPromise(t, acceptor(at(3, 2), vote(1, 1, 0, 5)), b, api.ErrRange)
		wantNoPromise(t, acceptor(at(65536, 4), everySlot(1)...), b, api.ErrRange)
	}
}

// TestPromiseOfWrongAcceptors: P8.3: acceptors that may not be, ahead of all else.
func TestPromiseOfWrongAcceptors(t *testing.T) {
	for _, a := range wrongAcceptors() {
		for _, b := range []api.Ballot{at(65536, 4), at(1, 0), a.Promised, at(0, 0), at(65537, 0), at(1, 5)} {
			wantNoPromise(t, a, b, api.ErrState)
		}
	}
}
