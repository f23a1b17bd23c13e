package paxos_test

import (
	"testing"

	"conclave/api"
	"conclave/paxos"
)

// propose in a ballot what more than half of the acceptors let it propose: some of them promise, and some of them vote.
func propose(t *testing.T, l []api.Acceptor, d *die, b api.Ballot, slot, value int) {
	t.Helper()
	var lists [][]api.Vote
	for i := range l {
		if d.upTo(3) == 0 {
			continue
		}
		if a, votes, e := paxos.Promise(l[i], b); e == api.OK {
			l[i], lists = a, append(lists, votes)
		}
	}
	if 2*len(lists) <= len(l) {
		return
	}
	c, is, e := paxos.Pick(lists, slot)
	if e != api.OK {
		t.Fatalf("of %v for %d: %d", lists, slot, int(e))
	}
	if !is {
		c = put(value)
	}
	for i := range l {
		if d.upTo(2) == 0 {
			continue
		}
		if a, e := paxos.Accept(l[i], api.Vote{Slot: slot, Ballot: b, What: c}); e == api.OK {
			l[i] = a
		}
	}
}

// TestOneIsChosen: what comes of it (P8.4 to P8.7): whoever proposes what Pick tells, never are two commands chosen in a slot, and what was chosen once is chosen in later ballots too.
func TestOneIsChosen(t *testing.T) {
	chosen := 0
	for seed := range 300 {
		d := die(seed)
		l := make([]api.Acceptor, 1+seed%api.MaxNodes)
		var first [2]api.Command // by slots, of Kind Noop if there was none
		for i := range 30 {
			b := at(1+i/3+d.upTo(2), d.upTo(4))
			if d.upTo(1) == 0 || i == 0 {
				b = at(1+i, i%api.MaxNodes) // mostly above all others
			}
			b.Round = b.Round*30 + i // each ballot is proposed in once
			propose(t, l, &d, b, i%2, 100+i)
			for slot := range first {
				c, e := paxos.Chosen(l, slot)
				if e == api.ErrNone {
					continue
				}
				if e != api.OK || first[slot].Kind != api.Noop && first[slot] != c {
					t.Fatalf("seed %d: %v, %d is chosen, and was %v", seed, c, int(e), first[slot])
				}
				if first[slot].Kind == api.Noop {
					chosen++
				}
				first[slot] = c
			}
		}
	}
	if chosen < 300 {
		t.Errorf("only %d were chosen: the test says little", chosen)
	}
}
