package moot

import (
	"slices"

	"conclave/api"
	"conclave/paxos"
)

// round: what the node that began it knows of it.
type round struct {
	ballot   api.Ballot
	promised [api.MaxNodes]bool
	heard    [api.MaxNodes]api.Acceptor // of each node the votes that it has told
	taught   [api.MaxNodes]int          // of how many slots each node was told
	next     int                        // nothing was proposed from this slot on
	queue    []api.Command              // what is to be agreed on, in the order in which it was asked for
}

// enough: have more than half of the nodes promised it?
func (r *round) enough() bool {
	count := 0
	for _, is := range r.promised {
		if is {
			count++
		}
	}
	return 2*count > api.MaxNodes
}

// hear what a node has promised: its votes. Those that it gave in this round may have been heard of ahead of that.
func (r *round) hear(from int, votes []api.Vote) {
	a := api.Acceptor{Promised: r.ballot, Votes: votes}
	for _, v := range r.heard[from].Votes {
		if with, e := paxos.Accept(a, v); e == api.OK {
			a = with
		}
	}
	r.promised[from], r.heard[from] = true, a
}

// lead: the node begins a round. Its own promise is synced ahead of all letters, so that it never begins this one again.
func (n *node) lead() {
	if !n.up {
		return
	}
	b := api.Ballot{Round: max(n.rounds, n.voter.Promised.Round) + 1, Node: n.number}
	votes, e := n.promise(b)
	if e != api.OK {
		return
	}
	n.round = round{ballot: b}
	for i := range n.round.taught {
		n.round.taught[i] = len(n.agreed)
	}
	n.whenSynced(func() {
		if n.voter.Promised != b {
			return // a greater one came in between
		}
		n.round.hear(n.number, votes)
		n.sendOthers(letter{kind: beginning, ballot: b})
	})
}

// leads: has the node begun a round since it is up, and promised no ballot above it?
func (n *node) leads() bool {
	return n.round.ballot != (api.Ballot{}) && n.round.ballot == n.voter.Promised
}

// takePromise of another node.
func (n *node) takePromise(l *letter) {
	n.learn(0, l.what)
	if !n.leads() || l.ballot != n.round.ballot || n.round.promised[l.from] {
		return
	}
	n.round.hear(l.from, l.votes)
	n.round.taught[l.from] = len(l.what)
	n.learnChosen()
}

// takeRefusal: it is known then above which round the next one must be.
func (n *node) takeRefusal(l *letter) { n.rounds = max(n.rounds, l.ballot.Round) }

// propose what the next slot must have, or else what was asked for. One slot is open at a time: who proposes anew knows of all that is ahead of it, so that no command is agreed on twice, and there are no gaps.
func (n *node) propose() {
	slot := len(n.agreed)
	if !n.leads() || !n.round.enough() || slot < n.round.next {
		return
	}
	what, is := n.nextCommand(slot)
	if !is {
		return
	}
	v := api.Vote{Slot: slot, Ballot: n.round.ballot, What: what}
	if n.vote(v) != api.OK {
		return
	}
	n.round.next = slot + 1
	n.whenSynced(func() {
		n.count(n.number, v)
		n.sendOthers(letter{kind: proposing, vote: v})
	})
}

// nextCommand: what is to be proposed in a slot, if anything is.
func (n *node) nextCommand(slot int) (api.Command, bool) {
	var lists [][]api.Vote
	for _, a := range n.round.heard {
		lists = append(lists, a.Votes)
	}
	what, is, e := paxos.Pick(lists, slot)
	if e != api.OK {
		return api.Command{}, false // there are no more slots
	}
	if is {
		return what, true
	}
	for _, c := range n.round.queue {
		if !slices.Contains(n.agreed, c) {
			return c, true
		}
	}
	return api.Command{}, false
}

// takeVote of another node.
func (n *node) takeVote(l *letter) { n.count(l.from, l.vote) }

// count a vote that was given in the node's own round.
func (n *node) count(from int, v api.Vote) {
	if v.Ballot != n.round.ballot {
		return
	}
	a, e := paxos.Accept(n.round.heard[from], v)
	if e != api.OK {
		return
	}
	n.round.heard[from] = a
	n.learnChosen()
}

// learnChosen: what more than half have voted for is agreed on.
func (n *node) learnChosen() {
	for {
		what, e := paxos.Chosen(n.round.heard[:], len(n.agreed))
		if e != api.OK {
			return
		}
		n.agreed = append(n.agreed, what)
	}
}
