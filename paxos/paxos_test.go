package paxos_test

import (
	"math"
	"slices"
	"testing"

	"conclave/api"
	"conclave/paxos"
)

// die: numbers that look drawn, the same each time.
type die uint64

func (d *die) upTo(most int) int {
	*d = *d*2862933555777941757 + 3037000493
	return int(uint64(*d>>33) % uint64(most+1))
}

// at: the ballot of a round and a node.
func at(round, node int) api.Ballot { return api.Ballot{Round: round, Node: node} }

// put: a command that differs from value to value.
func put(value int) api.Command {
	return api.Command{Kind: api.Put, Client: 1, Seq: 2, Name: 3, Value: value}
}

// vote for a put.
func vote(slot, round, node, value int) api.Vote {
	return api.Vote{Slot: slot, Ballot: at(round, node), What: put(value)}
}

// acceptor with what it has promised and voted for.
func acceptor(promised api.Ballot, votes ...api.Vote) api.Acceptor {
	return api.Acceptor{Promised: promised, Votes: votes}
}

// same: are two acceptors the same? A list without elements may be nil or not.
func same(a, b api.Acceptor) bool {
	return a.Promised == b.Promised && slices.Equal(a.Votes, b.Votes)
}

// isNothing: is it an acceptor's zero value?
func isNothing(a api.Acceptor) bool { return same(a, api.Acceptor{}) }

// standing: ballots that may be, each above the one ahead of it, with Round and Node at their bounds.
var standing = []api.Ballot{
	at(1, 0), at(1, 1), at(1, 3), at(1, 4),
	at(2, 0), at(2, 4), at(3, 0), at(3, 2), at(255, 4), at(256, 0), at(65534, 4),
	at(65535, 0), at(65535, 4), at(65536, 0), at(65536, 1), at(65536, 4),
}

// wrongBallots: ballots that may not be, with one or two numbers beyond their bounds.
var wrongBallots = []api.Ballot{
	at(0, 0), at(0, 1), at(0, 4), at(0, 5), at(0, -1),
	at(-1, 0), at(-1, 4), at(-65536, 2), at(math.MinInt, 0),
	at(65537, 0), at(65537, 4), at(1<<17, 1), at(1<<32+1, 0), at(math.MaxInt, 0),
	at(1, -1), at(1, 5), at(65536, -1), at(65536, 5), at(7, 6), at(7, math.MinInt), at(7, math.MaxInt), at(7, 1<<32),
	at(65537, 5), at(-1, -1), at(math.MaxInt, math.MinInt),
}

// wrongSlots: slots that are not there.
var wrongSlots = []int{-1, -2, -40, math.MinInt, 40, 41, 80, 1 << 20, 1 << 32, math.MaxInt}

// wrongCommands: commands that may not be, of each error.
var wrongCommands = []api.Command{
	{Kind: -1}, {Kind: 4}, {Kind: math.MaxInt},
	{Client: 1}, {Seq: 1}, {Name: 1}, {Value: 1}, {Value: -1},
	{Kind: api.Put, Client: 8}, {Kind: api.Put, Client: -1}, {Kind: api.Put, Seq: 1<<20 + 1}, {Kind: api.Put, Name: 8}, {Kind: api.Put, Value: 1<<30 + 1}, {Kind: api.Put, Value: -1},
	{Kind: api.Get, Value: 1}, {Kind: api.Get, Name: 8}, {Kind: api.Revoke, Value: 1}, {Kind: api.Revoke, Name: 8}, {Kind: api.Revoke, Seq: -1},
}

// wrongVotes: votes that may not be: by slot, by ballot, by command, and by all of them.
func wrongVotes() []api.Vote {
	out := []api.Vote{{}, {Slot: 40, Ballot: at(65537, 5), What: api.Command{Kind: 4}}}
	for _, slot := range wrongSlots {
		out = append(out, vote(slot, 1, 0, 5))
	}
	for _, b := range wrongBallots {
		out = append(out, api.Vote{Slot: 3, Ballot: b, What: put(5)})
	}
	for _, c := range wrongCommands {
		out = append(out, api.Vote{Slot: 3, Ballot: at(1, 0), What: c})
	}
	return out
}

// rightVotes: votes that may be, at the bounds of slots and commands, with a ballot.
func rightVotes(b api.Ballot) []api.Vote {
	var out []api.Vote
	for _, slot := range []int{0, 1, 20, 38, 39} {
		for _, c := range []api.Command{
			{}, put(0), put(1 << 30), {Kind: api.Get}, {Kind: api.Revoke},
			{Kind: api.Put, Client: 7, Seq: 1 << 20, Name: 7, Value: 1 << 30},
			{Kind: api.Get, Client: 7, Seq: 1 << 20, Name: 7},
			{Kind: api.Revoke, Client: 7, Seq: 1 << 20, Name: 7},
		} {
			out = append(out, api.Vote{Slot: slot, Ballot: b, What: c})
		}
	}
	return out
}

// everySlot: a vote for each slot.
func everySlot(round int) []api.Vote {
	var out []api.Vote
	for slot := range api.MaxSlots {
		out = append(out, vote(slot, round, slot%api.MaxNodes, slot))
	}
	return out
}

// rightAcceptors: acceptors that may be.
func rightAcceptors() []api.Acceptor {
	out := []api.Acceptor{
		{},
		{Votes: []api.Vote{}},
		acceptor(at(3, 2), vote(0, 1, 0, 5), vote(1, 1, 0, 5), vote(2, 3, 2, 5)),
		acceptor(at(3, 2), vote(0, 3, 2, 5), vote(39, 1, 4, 5)),
		acceptor(at(3, 2), vote(7, 2, 4, 5), vote(9, 3, 1, 6)),
		acceptor(at(3, 4), everySlot(3)...),
	}
	for _, b := range standing {
		out = append(out, acceptor(b))
		for _, v := range rightVotes(b) {
			out = append(out, acceptor(b, v))
		}
		for _, v := range rightVotes(at(1, 0)) {
			out = append(out, acceptor(b, v))
		}
	}
	return out
}

// wrongAcceptors: acceptors that may not be.
func wrongAcceptors() []api.Acceptor {
	out := []api.Acceptor{
		// nothing was promised, yet there is a vote
		acceptor(api.Ballot{}, vote(0, 1, 0, 5)),
		// slots that are the same, or fall, at the beginning and at the end
		acceptor(at(9, 0), vote(4, 1, 0, 5), vote(4, 1, 0, 5)),
		acceptor(at(9, 0), vote(4, 1, 0, 5), vote(4, 2, 0, 6)),
		acceptor(at(9, 0), vote(4, 1, 0, 5), vote(3, 1, 0, 5)),
		acceptor(at(9, 0), vote(39, 1, 0, 5), vote(0, 1, 0, 5)),
		acceptor(at(9, 0), vote(1, 1, 0, 5), vote(2, 1, 0, 5), vote(2, 1, 0, 5)),
		acceptor(at(9, 0), vote(1, 1, 0, 5), vote(2, 1, 0, 5), vote(0, 1, 0, 5)),
		acceptor(at(9, 0), vote(0, 1, 0, 5), vote(0, 1, 0, 5), vote(2, 1, 0, 5)),
		acceptor(at(9, 4), append(everySlot(9), vote(39, 9, 0, 5))...),
		// a ballot above what was promised, at the beginning and at the end
		acceptor(at(3, 2), vote(0, 3, 3, 5), vote(1, 1, 0, 5)),
		acceptor(at(3, 2), vote(0, 1, 0, 5), vote(1, 4, 0, 5)),
		acceptor(at(3, 2), vote(0, 1, 0, 5), vote(1, 4, 2, 5)),
	}
	for i, b := range standing[1:] {
		out = append(out, acceptor(standing[i], api.Vote{Slot: 2, Ballot: b, What: put(5)}))
	}
	for _, b := range wrongBallots {
		if b != (api.Ballot{}) {
			out = append(out, acceptor(b))
		}
		out = append(out, acceptor(b, vote(0, 1, 0, 5)))
	}
	for _, v := range wrongVotes() {
		out = append(out, acceptor(at(65536, 4), v), acceptor(at(65536, 4), vote(0, 1, 0, 5), v), acceptor(at(65536, 4), v, vote(39, 1, 0, 5)))
	}
	return out
}

// TestCheckOfRight: P8.1, P8.2, P8.3: acceptors that may be, and each ballot above or just as another as a vote's.
func TestCheckOfRight(t *testing.T) {
	for _, a := range rightAcceptors() {
		if e := paxos.Check(a); e != api.OK {
			t.Errorf("%v: %d", a, int(e))
		}
	}
}

// TestCheckOfWrong: P8.1, P8.2, P8.3: acceptors that may not be.
func TestCheckOfWrong(t *testing.T) {
	for _, a := range wrongAcceptors() {
		if e := paxos.Check(a); e != api.ErrState {
			t.Errorf("%v: %d", a, int(e))
		}
	}
}

// TestCheckOfStanding: P8.1, P8.3: a vote's ballot may stand at or below what was promised, by Round, of the same Round by Node.
func TestCheckOfStanding(t *testing.T) {
	for i, promised := range standing {
		for k, b := range standing {
			want := api.OK
			if k > i {
				want = api.ErrState
			}
			a := acceptor(promised, vote(1, 1, 0, 5), api.Vote{Slot: 4, Ballot: b, What: put(5)})
			if e := paxos.Check(a); e != want {
				t.Errorf("%v: %d, want %d", a, int(e), int(want))
			}
		}
	}
}

// TestCheckOfEachBallot: P8.1, P8.3: all small ballots, and those about the bounds.
func TestCheckOfEachBallot(t *testing.T) {
	for _, round := range []int{-2, -1, 0, 1, 2, 65535, 65536, 65537, 65538} {
		for node := -2; node <= 7; node++ {
			want := api.ErrState
			if round >= 1 && round <= 65536 && node >= 0 && node <= 4 || round == 0 && node == 0 {
				want = api.OK
			}
			if e := paxos.Check(acceptor(at(round, node))); e != want {
				t.Errorf("round %d, node %d: %d, want %d", round, node, int(e), int(want))
			}
		}
	}
}
