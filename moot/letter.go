package moot

import "conclave/api"

// kind of a letter.
type kind int

const (
	beginning kind = iota // a round begins: its ballot
	promising             // the ballot is promised: the votes so far, and what is known to be agreed on, from slot 0 on
	refusing              // a greater ballot was promised: that one
	proposing             // a vote is asked for
	voting                // it was given
	telling               // what was agreed on, from a slot on
	asking                // what the sender wants to be agreed on, and the first slot of which it does not know what was
)

// letter from a node to another. It is not changed once it is sent, since it may come several times.
type letter struct {
	kind     kind
	from, to int
	ballot   api.Ballot
	vote     api.Vote
	votes    []api.Vote
	slot     int
	what     []api.Command
}

// takers: what a node does with a letter that comes, by kinds.
func takers() map[kind]func(*node, *letter) {
	return map[kind]func(*node, *letter){
		beginning: (*node).takeBeginning,
		promising: (*node).takePromise,
		refusing:  (*node).takeRefusal,
		proposing: (*node).takeProposal,
		voting:    (*node).takeVote,
		telling:   (*node).takeNews,
		asking:    (*node).takeAsking,
	}
}

// outside of the nodes: what they have sent and told.
type outside struct {
	letters []*letter // those on their way, from the one that was sent first on
	told    []api.Told
}
