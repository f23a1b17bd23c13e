package paxos_test

import (
	"fmt"
	"slices"
	"testing"

	"conclave/api"
	"conclave/paxos"
)

// scribble over a list and its spare room.
func scribble(votes []api.Vote) {
	votes = votes[:cap(votes)]
	for i := range votes {
		votes[i] = api.Vote{Slot: -7, Ballot: at(-7, -7), What: api.Command{Kind: -7}}
	}
}

// calls: the lists that each call answers to an acceptor, a vote and its ballot, and all that it answers as a text.
var calls = map[string]func(a api.Acceptor, v api.Vote) ([][]api.Vote, string){
	"Check": func(a api.Acceptor, v api.Vote) ([][]api.Vote, string) {
		return nil, fmt.Sprint(paxos.Check(a))
	},
	"Promise": func(a api.Acceptor, v api.Vote) ([][]api.Vote, string) {
		got, told, e := paxos.Promise(a, v.Ballot)
		return [][]api.Vote{got.Votes, told}, fmt.Sprint(got, told, e)
	},
	"Accept": func(a api.Acceptor, v api.Vote) ([][]api.Vote, string) {
		got, e := paxos.Accept(a, v)
		return [][]api.Vote{got.Votes}, fmt.Sprint(got, e)
	},
	"Pick": func(a api.Acceptor, v api.Vote) ([][]api.Vote, string) {
		return nil, fmt.Sprint(paxos.Pick([][]api.Vote{a.Votes, a.Votes}, v.Slot))
	},
	"Chosen": func(a api.Acceptor, v api.Vote) ([][]api.Vote, string) {
		return nil, fmt.Sprint(paxos.Chosen([]api.Acceptor{a, {}, a}, v.Slot))
	},
}

// wantUntouched: the votes stay that are handed in, with what is behind them, and each list of the answer is memory of its own.
func wantUntouched(t *testing.T, what string, call func(api.Acceptor, api.Vote) ([][]api.Vote, string), a api.Acceptor, v api.Vote) {
	t.Helper()
	count := len(a.Votes)
	room := append(slices.Clone(a.Votes), everySlot(2)...)
	before := slices.Clone(room)
	a.Votes = room[:count]
	first, said := call(a, v)
	if !slices.Equal(room, before) {
		t.Fatalf("%s: a list that was handed in is changed", what)
	}
	second, again := call(a, v)
	if said != again {
		t.Fatalf("%s: %s, and then %s", what, said, again)
	}
	kept := fmt.Sprint(second)
	for i := range first {
		rest := fmt.Sprint(first[i+1:])
		scribble(first[i])
		if fmt.Sprint(first[i+1:]) != rest {
			t.Errorf("%s: two lists of an answer share memory", what)
		}
	}
	if !slices.Equal(room, before) {
		t.Fatalf("%s: the answer shares memory with a list that was handed in", what)
	}
	scribble(room)
	if fmt.Sprint(second) != kept {
		t.Errorf("%s: an answer hangs on another, or on what was handed in", what)
	}
}

// TestListsStay: P8.3 to P8.7: lists that are handed in, and their spare room, are not changed, and not kept, whether a call is refused or not; answers are new memory.
func TestListsStay(t *testing.T) {
	acceptors := append(rightAcceptors(), wrongAcceptors()...)
	for name, call := range calls {
		for i, a := range acceptors {
			for _, v := range []api.Vote{vote(0, 65536, 4, 5), vote(4, 65536, 4, 5), vote(39, 65536, 4, 5), vote(0, 1, 0, 5), vote(40, 1, 5, 5)} {
				wantUntouched(t, fmt.Sprint(name, " of acceptor ", i, " and ", v), call, a, v)
			}
		}
	}
}

// TestOuterListsStay: P8.6, P8.7: lists of lists and of acceptors stay too, with their spare room.
func TestOuterListsStay(t *testing.T) {
	spare := []api.Vote{vote(9, 9, 0, 9)}
	lists := [][]api.Vote{{vote(4, 2, 0, 5)}, nil, {vote(4, 3, 0, 6)}, spare, spare}
	l := []api.Acceptor{acceptor(at(3, 0), vote(4, 2, 0, 5)), {}, acceptor(at(4, 0), vote(4, 2, 0, 5)), acceptor(at(9, 0), spare...), {}}
	before := fmt.Sprint(lists, l)
	for n := range 4 {
		for _, slot := range []int{-1, 4, 9} {
			paxos.Pick(lists[:n], slot)
			paxos.Chosen(l[:n], slot)
		}
	}
	if after := fmt.Sprint(lists, l); after != before {
		t.Errorf("%s became %s", before, after)
	}
}

// TestTwoFromOne: P8.4, P8.5: an acceptor that is handed in twice makes two that have nothing in common.
func TestTwoFromOne(t *testing.T) {
	a, _ := paxos.Accept(api.Acceptor{}, vote(1, 1, 0, 5))
	b, _ := paxos.Accept(a, vote(3, 2, 0, 6))
	c, _ := paxos.Accept(a, vote(2, 3, 0, 7))
	d, told, _ := paxos.Promise(b, at(4, 0))
	scribble(told)
	for i, x := range []struct{ got, want api.Acceptor }{
		{a, acceptor(at(1, 0), vote(1, 1, 0, 5))},
		{b, acceptor(at(2, 0), vote(1, 1, 0, 5), vote(3, 2, 0, 6))},
		{c, acceptor(at(3, 0), vote(1, 1, 0, 5), vote(2, 3, 0, 7))},
		{d, acceptor(at(4, 0), vote(1, 1, 0, 5), vote(3, 2, 0, 6))},
	} {
		if !same(x.got, x.want) {
			t.Errorf("%d: %v, want %v", i, x.got, x.want)
		}
	}
}
