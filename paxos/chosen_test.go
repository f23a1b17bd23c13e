package paxos_test

import (
	"testing"

	"conclave/api"
	"conclave/paxos"
)

// wantChosen: a command is chosen in a slot.
func wantChosen(t *testing.T, l []api.Acceptor, slot int, want api.Command) {
	t.Helper()
	if c, e := paxos.Chosen(l, slot); e != api.OK || c != want {
		t.Errorf("of %v in %d: %v, %d, want %v", l, slot, c, int(e), want)
	}
}

// wantNotChosen: it is refused, or there is none.
func wantNotChosen(t *testing.T, l []api.Acceptor, slot int, want api.Errno) {
	t.Helper()
	if c, e := paxos.Chosen(l, slot); e != want || c != (api.Command{}) {
		t.Errorf("of %v in %d: %v, %d, want nothing, %d", l, slot, c, int(e), int(want))
	}
}

// voters: acceptors that have these votes for the slot 4, by ballots and values, and other votes about it; of a ballot of Round 0 they have none for it.
func voters(votes ...api.Vote) []api.Acceptor {
	var out []api.Acceptor
	for i, v := range votes {
		all := []api.Vote{vote(3, 1, 0, 70), v, vote(5, 1, 0, 71)}
		if v.Ballot.Round == 0 {
			all = []api.Vote{all[0], all[2]}
		}
		out = append(out, acceptor(at(8, i), all...))
	}
	return out
}

// TestChosenOfCounts: P8.7: of 1 to MaxNodes acceptors so many vote, whichever ones: more than half are needed.
func TestChosenOfCounts(t *testing.T) {
	for n := 1; n <= api.MaxNodes; n++ {
		for who := range 1 << n {
			var votes []api.Vote
			count := 0
			for i := range n {
				if who>>i&1 == 1 {
					votes = append(votes, vote(4, 6, 1, 5))
					count++
				} else {
					votes = append(votes, api.Vote{})
				}
			}
			if count > n/2 {
				wantChosen(t, voters(votes...), 4, put(5))
			} else {
				wantNotChosen(t, voters(votes...), 4, api.ErrNone)
			}
		}
	}
}

// TestChosenOfExamples: P8.7: who has votes of what, told by hand.
func TestChosenOfExamples(t *testing.T) {
	v, none := vote(4, 6, 1, 5), api.Vote{}
	round, node, what := vote(4, 7, 1, 5), vote(4, 6, 2, 5), vote(4, 6, 1, 6)
	for _, x := range []struct {
		votes []api.Vote
		value int // 0: none
	}{
		{[]api.Vote{v}, 5},
		{[]api.Vote{none}, 0},
		{[]api.Vote{v, none}, 0},
		{[]api.Vote{v, v}, 5},
		{[]api.Vote{v, v, none, none}, 0},
		{[]api.Vote{none, v, v, v}, 5},
		// the same command in two ballots, by Round and by Node
		{[]api.Vote{v, round}, 0},
		{[]api.Vote{v, node}, 0},
		{[]api.Vote{v, round, node}, 0},
		{[]api.Vote{v, v, round, round, none}, 0},
		{[]api.Vote{v, v, round, node, node}, 0},
		{[]api.Vote{v, round, v, round, v}, 5},
		// one ballot for two commands
		{[]api.Vote{v, what}, 0},
		{[]api.Vote{v, what, what}, 6},
		{[]api.Vote{v, what, v, what, none}, 0},
		{[]api.Vote{v, what, v, what, v}, 5},
		{[]api.Vote{what, v, v, what, what}, 6},
		// a later ballot of fewer takes nothing away
		{[]api.Vote{v, v, v, vote(4, 8, 0, 9), vote(4, 8, 0, 9)}, 5},
		{[]api.Vote{vote(4, 8, 0, 9), vote(4, 8, 0, 9), v, v, v}, 5},
	} {
		if x.value == 0 {
			wantNotChosen(t, voters(x.votes...), 4, api.ErrNone)
		} else {
			wantChosen(t, voters(x.votes...), 4, put(x.value))
		}
	}
}

// TestChosenOfNone: P8.7: acceptors without votes.
func TestChosenOfNone(t *testing.T) {
	for n := 1; n <= api.MaxNodes; n++ {
		for slot := range api.MaxSlots {
			wantNotChosen(t, make([]api.Acceptor, n), slot, api.ErrNone)
		}
	}
}

// TestChosenOfSlots: P8.7: each slot has its own command.
func TestChosenOfSlots(t *testing.T) {
	full := acceptor(at(3, 4), everySlot(3)...)
	for n := 1; n <= api.MaxNodes; n++ {
		var l []api.Acceptor
		for i := range n {
			if i < n/2 {
				l = append(l, api.Acceptor{})
			} else {
				l = append(l, full)
			}
		}
		if n%2 == 0 {
			l[0] = full
		}
		for slot := range api.MaxSlots {
			wantChosen(t, l, slot, put(slot))
		}
	}
}

// TestChosenOfOtherSlots: P8.7: votes for other slots are not counted.
func TestChosenOfOtherSlots(t *testing.T) {
	l := []api.Acceptor{acceptor(at(3, 2), vote(3, 1, 0, 5)), acceptor(at(3, 2), vote(4, 1, 0, 5)), acceptor(at(3, 2), vote(5, 1, 0, 5))}
	for slot := range api.MaxSlots {
		wantNotChosen(t, l, slot, api.ErrNone)
	}
}

// TestChosenOfNoop: P8.7: a Noop is chosen as others are.
func TestChosenOfNoop(t *testing.T) {
	noop := api.Vote{Slot: 4, Ballot: at(6, 1)}
	wantChosen(t, voters(noop, noop, api.Vote{}), 4, api.Command{})
	wantNotChosen(t, voters(noop, vote(4, 6, 1, 5), api.Vote{}), 4, api.ErrNone)
}

// TestChosenOfEdges: P8.2, P8.7: votes at the bounds.
func TestChosenOfEdges(t *testing.T) {
	for _, b := range standing {
		for _, v := range rightVotes(b) {
			a := acceptor(b, v)
			wantChosen(t, []api.Acceptor{a, a, {}}, v.Slot, v.What)
		}
	}
}

// TestChosenOfRange: P8.7: slots that are not there, and too few and too many acceptors, ahead of acceptors that may not be.
func TestChosenOfRange(t *testing.T) {
	good, bad := acceptor(at(9, 0), everySlot(1)...), acceptor(at(0, 1))
	for _, slot := range wrongSlots {
		wantNotChosen(t, []api.Acceptor{good}, slot, api.ErrRange)
		wantNotChosen(t, []api.Acceptor{bad}, slot, api.ErrRange)
		wantNotChosen(t, []api.Acceptor{good, bad, good}, slot, api.ErrRange)
		wantNotChosen(t, nil, slot, api.ErrRange)
		wantNotChosen(t, make([]api.Acceptor, 6), slot, api.ErrRange)
		wantNotChosen(t, []api.Acceptor{acceptor(at(9, 0), vote(slot, 1, 0, 5))}, slot, api.ErrRange)
	}
	for _, slot := range []int{0, 4, 39} {
		wantNotChosen(t, nil, slot, api.ErrRange)
		wantNotChosen(t, []api.Acceptor{}, slot, api.ErrRange)
		for _, n := range []int{6, 7, 10, 1000} {
			var rights, wrongs []api.Acceptor
			for range n {
				rights, wrongs = append(rights, good), append(wrongs, bad)
			}
			wantNotChosen(t, rights, slot, api.ErrRange)
			wantNotChosen(t, wrongs, slot, api.ErrRange)
		}
	}
}

// TestChosenOfWrongAcceptors: P8.3, P8.7: acceptors that may not be, wherever they stand, ahead of there being one or none.
func TestChosenOfWrongAcceptors(t *testing.T) {
	good := acceptor(at(9, 4), everySlot(9)...)
	for _, a := range wrongAcceptors() {
		for _, slot := range []int{0, 4, 39} {
			wantNotChosen(t, []api.Acceptor{a}, slot, api.ErrState)
			wantNotChosen(t, []api.Acceptor{a, good, good}, slot, api.ErrState)
			wantNotChosen(t, []api.Acceptor{good, good, a}, slot, api.ErrState)
			wantNotChosen(t, []api.Acceptor{{}, {}, {}, {}, a}, slot, api.ErrState)
		}
	}
}
