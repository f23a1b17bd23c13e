package moot

import (
	"slices"

	"conclave/api"
	"conclave/paxos"
	"conclave/stable"
)

// promise a ballot, on the tape too; the votes so far are told.
func (n *node) promise(b api.Ballot) ([]api.Vote, api.Errno) {
	voter, votes, e := paxos.Promise(n.voter, b)
	if e != api.OK {
		return nil, e
	}
	if b != n.voter.Promised { // else the tape has it, and its room is scarce
		tape, e := stable.Promise(n.tape, b)
		if e != api.OK {
			return nil, e
		}
		n.tape = tape
	}
	n.voter = voter
	return votes, api.OK
}

// vote, on the tape too.
func (n *node) vote(v api.Vote) api.Errno {
	voter, e := paxos.Accept(n.voter, v)
	if e != api.OK {
		return e
	}
	if !slices.Contains(n.voter.Votes, v) { // else the tape has it
		tape, e := stable.Vote(n.tape, v)
		if e != api.OK {
			return e
		}
		n.tape = tape
	}
	n.voter = voter
	return api.OK
}

// takeBeginning: another node has begun a round.
func (n *node) takeBeginning(l *letter) {
	votes, e := n.promise(l.ballot)
	if e != api.OK {
		n.refuse(l.from, e)
		return
	}
	n.whenSynced(func() {
		n.send(l.from, letter{kind: promising, ballot: l.ballot, votes: votes, what: n.agreed})
	})
}

// takeProposal: another node asks for a vote.
func (n *node) takeProposal(l *letter) {
	if e := n.vote(l.vote); e != api.OK {
		n.refuse(l.from, e)
		return
	}
	n.whenSynced(func() { n.send(l.from, letter{kind: voting, vote: l.vote}) })
}

// refuse who came with a ballot that is too old. Where the tape is full nothing is told: no other ballot would help.
func (n *node) refuse(to int, e api.Errno) {
	if e != api.ErrOld {
		return
	}
	greater := n.voter.Promised
	n.whenSynced(func() { n.send(to, letter{kind: refusing, ballot: greater}) })
}
