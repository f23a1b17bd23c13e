package paxos_test

import (
	"testing"

	"conclave/api"
	"conclave/paxos"
)

// wantPick: a command is told for a slot.
func wantPick(t *testing.T, lists [][]api.Vote, slot int, want api.Command) {
	t.Helper()
	if c, is, e := paxos.Pick(lists, slot); e != api.OK || !is || c != want {
		t.Errorf("of %v for %d: %v, %v, %d, want %v", lists, slot, c, is, int(e), want)
	}
}

// wantNoPick: no command is told for a slot, with an error or without.
func wantNoPick(t *testing.T, lists [][]api.Vote, slot int, want api.Errno) {
	t.Helper()
	if c, is, e := paxos.Pick(lists, slot); e != want || is || c != (api.Command{}) {
		t.Errorf("of %v for %d: %v, %v, %d, want nothing, %d", lists, slot, c, is, int(e), int(want))
	}
}

// TestPickOfExamples: P8.6: the vote with the greatest ballot, told by hand.
func TestPickOfExamples(t *testing.T) {
	lists := [][]api.Vote{
		{vote(0, 2, 1, 10), vote(1, 5, 0, 11), vote(3, 1, 0, 12)},
		nil,
		{vote(0, 2, 3, 20), vote(1, 4, 4, 21), vote(2, 9, 0, 22)},
		{},
		{vote(0, 2, 2, 30), vote(3, 1, 1, 32), vote(39, 65536, 4, 33)},
	}
	for slot, want := range map[int]int{0: 20, 1: 11, 2: 22, 3: 32, 39: 33} {
		wantPick(t, lists, slot, put(want))
	}
	for _, slot := range []int{4, 5, 20, 38} {
		wantNoPick(t, lists, slot, api.OK)
	}
}

// TestPickOfNone: P8.6: no lists, empty ones, and votes for other slots alone.
func TestPickOfNone(t *testing.T) {
	for slot := range api.MaxSlots {
		wantNoPick(t, nil, slot, api.OK)
		wantNoPick(t, [][]api.Vote{}, slot, api.OK)
		wantNoPick(t, [][]api.Vote{nil, {}, nil}, slot, api.OK)
		votes := everySlot(3)
		votes[slot] = vote((slot+1)%40, 9, 0, 5)
		wantNoPick(t, [][]api.Vote{nil, votes}, slot, api.OK)
	}
}

// TestPickOfNoop: P8.6: a vote for a Noop is one: that it was there is told.
func TestPickOfNoop(t *testing.T) {
	noop := api.Vote{Slot: 2, Ballot: at(1, 0)}
	wantPick(t, [][]api.Vote{{noop}}, 2, api.Command{})
	wantPick(t, [][]api.Vote{{noop, vote(2, 1, 1, 5)}}, 2, put(5))
	noop.Ballot = at(1, 2)
	wantPick(t, [][]api.Vote{{noop}, {vote(2, 1, 1, 5)}}, 2, api.Command{})
}

// TestPickOfStanding: P8.1, P8.6: of any two ballots the greater one, whichever comes first, in one list and in two.
func TestPickOfStanding(t *testing.T) {
	for i, one := range standing {
		for k, two := range standing {
			v, w := api.Vote{Slot: 4, Ballot: one, What: put(1)}, api.Vote{Slot: 4, Ballot: two, What: put(2)}
			want := put(1)
			if k > i {
				want = put(2)
			}
			wantPick(t, [][]api.Vote{{v, w}}, 4, want)
			wantPick(t, [][]api.Vote{{v}, {w}}, 4, want)
		}
	}
}

// TestPickOfFirst: P8.6: of several with the same ballot the first, list by list, vote by vote.
func TestPickOfFirst(t *testing.T) {
	lower := vote(4, 3, 1, 9)
	for _, lists := range [][][]api.Vote{
		{{vote(4, 3, 2, 1), vote(4, 3, 2, 2)}, {vote(4, 3, 2, 3)}},
		{{lower, vote(4, 3, 2, 1), lower, vote(4, 3, 2, 2)}, {vote(4, 3, 2, 3)}},
		{{lower}, {vote(4, 3, 2, 1)}, {vote(4, 3, 2, 2), vote(4, 3, 2, 3)}},
		{nil, {vote(4, 3, 2, 1)}, {vote(4, 3, 2, 0)}},
		{{vote(5, 3, 2, 7), vote(4, 3, 2, 1)}, {vote(4, 3, 2, 0)}},
	} {
		wantPick(t, lists, 4, put(1))
	}
}

// TestPickOfAnyLists: P8.6: lists need not be those of acceptors: slots may fall and come again.
func TestPickOfAnyLists(t *testing.T) {
	votes := []api.Vote{vote(9, 1, 0, 1), vote(2, 4, 0, 2), vote(9, 3, 0, 3), vote(2, 4, 0, 4), vote(9, 2, 0, 5)}
	wantPick(t, [][]api.Vote{votes}, 9, put(3))
	wantPick(t, [][]api.Vote{votes}, 2, put(2))
	many := make([][]api.Vote, 0, 100)
	for i := range 100 {
		many = append(many, []api.Vote{vote(1, 1+(i*37)%100, 0, i)})
	}
	wantPick(t, many, 1, put(27)) // 27 * 37 = 999: round 100
}

// TestPickOfEdges: P8.2, P8.6: votes at the bounds.
func TestPickOfEdges(t *testing.T) {
	for _, b := range standing {
		for _, v := range rightVotes(b) {
			wantPick(t, [][]api.Vote{{v}}, v.Slot, v.What)
		}
	}
}

// TestPickOfWrongSlots: P8.6: slots that are not there, ahead of votes that may not be.
func TestPickOfWrongSlots(t *testing.T) {
	for _, slot := range wrongSlots {
		wantNoPick(t, nil, slot, api.ErrRange)
		wantNoPick(t, [][]api.Vote{{vote(1, 1, 0, 5)}}, slot, api.ErrRange)
		wantNoPick(t, [][]api.Vote{{vote(slot, 1, 0, 5)}}, slot, api.ErrRange)
		wantNoPick(t, [][]api.Vote{{vote(1, 0, 0, 5)}}, slot, api.ErrRange)
	}
}

// TestPickOfWrongVotes: P8.2, P8.6: some vote may not be, wherever it stands and whatever its slot is.
func TestPickOfWrongVotes(t *testing.T) {
	good := vote(4, 9, 0, 5)
	for _, v := range wrongVotes() {
		for _, slot := range []int{0, 3, 4, 39} {
			wantNoPick(t, [][]api.Vote{{v}}, slot, api.ErrState)
			wantNoPick(t, [][]api.Vote{{v, good}}, slot, api.ErrState)
			wantNoPick(t, [][]api.Vote{{good, v}}, slot, api.ErrState)
			wantNoPick(t, [][]api.Vote{{good}, nil, {good, v}}, slot, api.ErrState)
			wantNoPick(t, [][]api.Vote{{v}, {good}}, slot, api.ErrState)
		}
	}
}
