package paxos

import (
	"sort"

	"conclave/api"
	"conclave/order"
)

// isSlot: is there such a slot?
func isSlot(slot int) bool { return slot >= 0 && slot < api.MaxSlots }

// ballotMayBe: is it a round of some node?
func ballotMayBe(b api.Ballot) bool {
	return b.Round >= 1 && b.Round <= api.MaxRound && b.Node >= 0 && b.Node < api.MaxNodes
}

// voteMayBe: is it a vote that some acceptor may have?
func voteMayBe(v api.Vote) bool {
	return isSlot(v.Slot) && ballotMayBe(v.Ballot) && order.Check(v.What) == api.OK
}

// below: does a ballot stand below another? The one that is none stands below all that may be.
func below(a, b api.Ballot) bool {
	if a.Round != b.Round {
		return a.Round < b.Round
	}
	return a.Node < b.Node
}

// copyOf votes, in memory of its own.
func copyOf(votes []api.Vote) []api.Vote {
	out := make([]api.Vote, len(votes))
	copy(out, votes)
	return out
}

// placeOf a slot among votes whose slots rise: that of its vote, or where such a vote belongs.
func placeOf(votes []api.Vote, slot int) int {
	return sort.Search(len(votes), func(i int) bool { return votes[i].Slot >= slot })
}

// hasVote: is the vote at a place, which placeOf has told, one for the slot?
func hasVote(votes []api.Vote, place, slot int) bool {
	return place < len(votes) && votes[place].Slot == slot
}

// withVote: votes whose slots rise, with one more, which stands in place of the one for its slot.
func withVote(votes []api.Vote, v api.Vote) []api.Vote {
	place := placeOf(votes, v.Slot)
	behind := place
	if hasVote(votes, place, v.Slot) {
		behind++
	}
	out := make([]api.Vote, 0, len(votes)+1)
	out = append(out, votes[:place]...)
	out = append(out, v)
	return append(out, votes[behind:]...)
}

// mostVoted: the command of more than half of the acceptors. A vote has its ballot in it, so that votes of different ballots are not counted together.
func mostVoted(l []api.Acceptor, slot int) (api.Command, api.Errno) {
	counts := make(map[api.Vote]int)
	for _, a := range l {
		place := placeOf(a.Votes, slot)
		if !hasVote(a.Votes, place, slot) {
			continue
		}
		v := a.Votes[place]
		counts[v]++
		if 2*counts[v] > len(l) {
			return v.What, api.OK
		}
	}
	return api.Command{}, api.ErrNone
}
