package moot

import (
	"bytes"
	"slices"
	"testing"

	"conclave/api"
	"conclave/paxos"
	"conclave/stable"
)

// proof: what letters have claimed so far.
type proof struct {
	t        *testing.T
	w        *watch
	seen     map[*letter]int
	proposed map[api.Vote]int // by slot and ballot alone: at which place of commands
	commands []api.Command
	kinds    map[kind]int
}

// TestSyncedAheadOfLetters: P12.5, P12.6: in drawn scripts a node's acceptor is at each time what its tape makes; nothing is left to sync behind a piece; what a letter says was promised or voted for was on its sender's tape, and synced, when it was sent; a round is begun once, by its own node, and has one command a slot.
func TestSyncedAheadOfLetters(t *testing.T) {
	kinds := make(map[kind]int)
	unsynced, torn := 0, 0
	for seed := range 300 {
		d := die(20000 + seed)
		p := &proof{t: t, w: newWatch(t), seen: make(map[*letter]int), proposed: make(map[api.Vote]int), kinds: kinds}
		for _, a := range d.script(t, 120) {
			n := p.w.m.nodes[a.Node]
			left := len(n.tape.Data) - n.tape.Synced
			unsynced += left
			if a.Kind == api.Crash && a.Keep > 0 && a.Keep < left {
				torn++
			}
			p.w.do([]api.Act{a})
			p.checkNodes(a)
			p.checkLetters()
		}
	}
	for k := beginning; k <= asking; k++ {
		if kinds[k] < 20 {
			t.Errorf("only %d letters of the kind %d: the test says little", kinds[k], k)
		}
	}
	if unsynced == 0 || torn < 5 {
		t.Errorf("%d bytes were not synced, %d tapes torn: the test says little", unsynced, torn)
	}
}

// checkNodes behind an act.
func (p *proof) checkNodes(a api.Act) {
	p.t.Helper()
	for _, n := range p.w.m.nodes {
		voter, whole, e := stable.Recover(n.tape)
		if e != api.OK {
			p.t.Fatalf("the tape of the node %d: %d", n.number, int(e))
		}
		if !n.up {
			continue
		}
		if whole != len(n.tape.Data) || voter.Promised != n.voter.Promised || !slices.Equal(voter.Votes, n.voter.Votes) || paxos.Check(n.voter) != api.OK {
			p.t.Fatalf("the tape of the node %d makes %v, it is %v\n%s", n.number, voter, n.voter, brief(p.w.acts))
		}
		if a.Kind == api.Step && a.Node == n.number && n.tape.Synced != len(n.tape.Data) {
			p.t.Fatalf("a piece of the node %d leaves %d bytes\n%s", n.number, len(n.tape.Data)-n.tape.Synced, brief(p.w.acts))
		}
	}
}

// checkLetters that were sent since the last time.
func (p *proof) checkLetters() {
	p.t.Helper()
	for _, l := range p.w.m.out.letters {
		if p.seen[l] > 0 {
			continue
		}
		p.seen[l]++
		p.kinds[l.kind]++
		n := p.w.m.nodes[l.from]
		switch l.kind {
		case beginning, promising:
			p.checkWritten(n, l.ballot)
		case voting:
			p.checkVoted(n, l.vote)
		case proposing:
			p.checkVoted(n, l.vote)
			p.checkProposed(l.vote)
		}
		if l.from == l.to || (l.kind == beginning && l.ballot.Node != l.from) || (l.kind == proposing && l.vote.Ballot.Node != l.from) {
			p.t.Fatalf("the node %d has sent %v", l.from, l)
		}
	}
}

// checkWritten: a node has synced that it has promised a ballot.
func (p *proof) checkWritten(n *node, b api.Ballot) {
	p.t.Helper()
	record, _ := stable.Promise(api.Tape{}, b)
	first, _ := stable.Vote(api.Tape{}, api.Vote{Ballot: b})
	has := bytes.Contains(n.tape.Data[:n.tape.Synced], record.Data)
	// a vote in the ballot promises it, too: its two numbers stand behind the slot in such a record
	if !has && !bytes.Contains(n.tape.Data[:n.tape.Synced], first.Data[6:14]) {
		p.t.Fatalf("the node %d has promised %v, and not synced it\n%s", n.number, b, brief(p.w.acts))
	}
}

// checkVoted: a node has synced a vote.
func (p *proof) checkVoted(n *node, v api.Vote) {
	p.t.Helper()
	record, _ := stable.Vote(api.Tape{}, v)
	if !bytes.Contains(n.tape.Data[:n.tape.Synced], record.Data) {
		p.t.Fatalf("the node %d has voted %v, and not synced it\n%s", n.number, v, brief(p.w.acts))
	}
}

// checkProposed: in a ballot there is one command a slot.
func (p *proof) checkProposed(v api.Vote) {
	p.t.Helper()
	key := api.Vote{Slot: v.Slot, Ballot: v.Ballot}
	place, is := p.proposed[key]
	if !is {
		p.proposed[key] = len(p.commands)
		p.commands = append(p.commands, v.What)
		return
	}
	if p.commands[place] != v.What {
		p.t.Fatalf("in the slot %d and the ballot %v both %v and %v were proposed\n%s", v.Slot, v.Ballot, p.commands[place], v.What, brief(p.w.acts))
	}
}

// TestRoundsRise: P12.5: each Lead begins a round above all that the node knows: of its own, of others that it has promised, of those that it was refused for, and of those that its tape has behind a crash.
func TestRoundsRise(t *testing.T) {
	w := newWatch(t)
	var last api.Ballot
	for _, text := range []string{
		"lead 0", "lead 0", "step 0; lead 0", "step 0; crash 0 0; start 0; lead 0", "crash 0 14; start 0; lead 0",
		"step 0; all; lead 1", "step 1; all; lead 0", "step 0; crash 0 5; start 0; lead 0", "step 0; all; lead 4",
	} {
		w.do(acts(t, text))
		n := w.acts[len(w.acts)-1].Node
		b := w.m.nodes[n].round.ballot
		if b.Node != n || b.Round <= last.Round {
			t.Errorf("%s: %v behind %v", text, b, last)
		}
		last = b
	}
	// the node 3 knows of no round, and is refused
	w = watched(t, acts(t, "crash 3 0; lead 0; lead 0; lead 0; lead 0; step 0; all; start 3; lead 3; step 3; all; step 0; step 1; all; lead 3"))
	if b := w.m.nodes[3].round.ballot; b != (api.Ballot{Round: 5, Node: 3}) {
		t.Errorf("%v", b)
	}
}

// TestFullTape: P12.5: a node whose tape is full promises and votes no more, and says nothing; the others go on without it, and what they agree on it does, too.
func TestFullTape(t *testing.T) {
	c := put(1, 0, 2, 77)
	w := newWatch(t)
	round := acts(t, "lead 4; step 4; lose 0; lose 0; lose 0; lose 0")
	for range api.MaxBytes/14 + 2 {
		w.do(round)
	}
	n := w.m.nodes[4]
	if len(n.tape.Data) != api.MaxBytes/14*14 || n.round.ballot.Round != api.MaxBytes/14 || n.voter.Promised != n.round.ballot || w.now.Flying != 0 {
		t.Fatalf("%d bytes, the rounds %v and %v", len(n.tape.Data), n.round.ballot, n.voter.Promised)
	}
	w.m.nodes[0].rounds = 7142 // as if it had been refused
	w.do(join(submits(t, c, 0, 4), acts(t, "lead 0; step 0; carry 3; step 4")))
	if w.now.Flying != 3 {
		t.Errorf("%d letters", w.now.Flying)
	}
	w.do(fair(10))
	if !slices.Equal(w.agreed, []api.Command{c}) || len(n.tape.Data) != api.MaxBytes/14*14 {
		t.Errorf("done is %v, %d bytes", w.agreed, len(n.tape.Data))
	}
	wantAll(t, "all", w.now, c)
}

// written: how many bytes all tapes have together.
func (w *watch) written() int {
	count := 0
	for _, n := range w.m.nodes {
		count += len(n.tape.Data)
	}
	return count
}

// TestTapesStaySmall: P12.5, P12.8: letters that are doubled, and rounds in which nothing is left to agree on, take little of the tapes, though all nodes have forgotten what they did.
func TestTapesStaySmall(t *testing.T) {
	var l []api.Act
	for i := range 10 {
		l = append(l, submits(t, put(1, i, 2, i), i%5)...)
	}
	w := watched(t, join(l, acts(t, "lead 0"), fair(1)))
	for range 60 { // each letter comes twice
		for n := range api.MaxNodes {
			w.do([]api.Act{{Kind: api.Step, Node: n}})
		}
		for w.now.Flying > 0 {
			w.do(acts(t, "double 0; carry 0"))
		}
	}
	before := w.written()
	if before != 5*(14+10*38) {
		t.Errorf("%d bytes", before)
	}
	for n := range api.MaxNodes {
		w.do(acts(t, "crash 0 0; crash 1 0; crash 2 0; crash 3 0; crash 4 0; start 0; start 1; start 2; start 3; start 4"))
		w.do([]api.Act{{Kind: api.Lead, Node: n}, {Kind: api.Step, Node: n}})
		for place := range 8 {
			w.do([]api.Act{{Kind: api.Double, At: place}, {Kind: api.Double, At: place}})
		}
		w.do(fair(30))
	}
	if now := w.written(); now != before+5*5*14 {
		t.Errorf("%d bytes became %d", before, now)
	}
	wantAll(t, "all", w.now, w.agreed...)
}

// TestLearnsFromLogs: P12.5: who leads learns what was agreed on from one node that has done it, and nobody votes for it again.
func TestLearnsFromLogs(t *testing.T) {
	c := put(1, 0, 2, 77)
	// 0, 1 and 2 have voted, 0 and 1 have done it, and nothing of that came to 3 and 4
	w := watched(t, join(proposed(t, c), acts(t, "carry 0; carry 0; lose 0; lose 0; step 1; step 2; all; step 0; carry 0; step 1; lose 0; lose 0; lose 0")))
	w.do(join(acts(t, "crash 0 0; crash 2 0; lead 3"), fair(10)))
	want := []api.Command{c}
	wantLogs(t, "learned", w.now, nil, want, nil, want, want)
	for _, n := range []int{3, 4} {
		if votes := w.m.nodes[n].voter.Votes; len(votes) != 0 {
			t.Errorf("the node %d has voted %v", n, votes)
		}
	}
}

// TestVoteAheadOfPromise: P12.6: a vote that comes ahead of the promise of the same node is counted when that has come, too.
func TestVoteAheadOfPromise(t *testing.T) {
	c := put(1, 0, 2, 77)
	w := watched(t, join(submits(t, c, 0), acts(t, "lead 0; step 0; all; step 3; step 1; step 2"))) // promises of 3, 1 and 2
	w.do(acts(t, "carry 1; carry 1; step 0; lose 4; lose 2; carry 2; step 3"))                      // proposed to 1, 2, 3 and 4, of which 3 votes
	if w.now.Flying != 3 {
		t.Fatalf("%d letters", w.now.Flying) // the promise of 3, what was proposed to 1, the vote of 3
	}
	w.do(acts(t, "carry 2; carry 0; carry 0; step 1; carry 0; step 0"))
	wantTold(t, "0, 3 and 1 have voted", w.now, answer(0, c, 0, 77))
}

// TestOldPromises: P12.6: promises of a round that its node has begun ahead of another one do not count for that: else another command would be agreed on in the same slot.
func TestOldPromises(t *testing.T) {
	c, other := put(1, 0, 2, 77), put(2, 0, 3, 88)
	w := watched(t, join(submits(t, c, 0), acts(t, "lead 0; step 0; carry 0; carry 0; lose 0; lose 0; step 1; step 2"))) // promises of 1 and 2
	// 3 leads, and 1, 2 and 3 agree on the other command; the promises to 0 stay on their way
	w.do(join(submits(t, other, 3), acts(t, "lead 3; lead 3; step 3; lose 2; carry 2; carry 2; lose 2; step 1; step 2; carry 2; carry 2; step 3; lose 2; carry 2; carry 2; lose 2; step 1; step 2; carry 2; carry 2; step 3")))
	wantTold(t, "3 has led", w.now, answer(3, other, 0, 88))
	// 0 knows of nothing, and leads with a greater round; the old promises come
	w.do(acts(t, "lead 0; lead 0; lead 0; step 0; carry 0; carry 0"))
	for w.now.Flying > 0 {
		w.do(acts(t, "lose 0"))
	}
	w.do(acts(t, "step 0; all; step 1; step 2; step 4; all; step 0"))
	w.do(fair(10))
	if len(w.now.Logs[0]) != 0 {
		t.Errorf("the node 0 has done %v", w.now.Logs[0])
	}
	w.settle(0, upOf(31)...)
}

// TestLettersAreFew: P12.5: what a node has sent once it does not send again in a later piece, nor for a letter that tells nothing new.
func TestLettersAreFew(t *testing.T) {
	c := put(1, 0, 2, 77)
	for _, x := range []struct {
		text string
		want int
	}{
		{"lead 0; lead 0; lead 0; step 0; step 0", 4}, // the last round alone
		{"lead 0; step 0; all; step 1; step 1", 1},
		{"lead 0; step 0; all; step 1; step 2; step 3; double 0; double 0; all; step 0; step 0; step 0", 4}, // one slot is proposed, once
		{"lead 0; step 0; all; step 1; step 2; step 3; double 0; carry 1; carry 1; step 0; carry 1; carry 1; step 1; step 2; all; step 0; step 0", 4},                       // and told, once
		{"lead 0; step 0; all; step 1; step 2; step 3; double 0; carry 1; carry 1; step 0; carry 1; carry 1; step 1; step 2; carry 3; carry 3; step 0; carry 0; step 0", 6}, // a promise comes again behind that
	} {
		if w := watched(t, join(submits(t, c, 0), acts(t, x.text))); w.now.Flying != x.want {
			t.Errorf("%s: %d letters, want %d", x.text, w.now.Flying, x.want)
		}
	}
}

// TestLettersAreShort: P12.5: of more than fit into the slots a node asks for no more than these.
func TestLettersAreShort(t *testing.T) {
	var l []api.Act
	for i := range 3 * api.MaxSlots {
		l = append(l, submits(t, put(i%8, i/8, i%3, i), 4)...)
	}
	w := watched(t, join(acts(t, "lead 0"), fair(3), l, acts(t, "step 4")))
	if w.now.Flying != 1 || len(w.m.out.letters[0].what) != api.MaxSlots {
		t.Errorf("%d letters, the first one of %d commands", w.now.Flying, len(w.m.out.letters[0].what))
	}
	w.do(fair(10))
	w.do(acts(t, "crash 4 0; start 4"))
	w.do(l[api.MaxSlots:])
	w.do(fair(10))
	if n := w.m.nodes[0]; len(n.round.queue) != api.MaxSlots {
		t.Errorf("%d commands wait", len(n.round.queue))
	}
}

// TestTapeOfOneThatIsDown: P12.5: no act but Start does anything to the tape of a node that is down.
func TestTapeOfOneThatIsDown(t *testing.T) {
	w := watched(t, join(acts(t, "lead 0"), fair(3), acts(t, "lead 0; step 0; all; crash 1 5")))
	n := w.m.nodes[1]
	was := bytes.Clone(n.tape.Data)
	if len(was) != 14+5 || n.tape.Synced != len(was) {
		t.Fatalf("%v", n.tape)
	}
	for _, text := range []string{"lead 1", "step 1", "submit 1 00", "lead 0; step 0; all", "crash 1 0", "crash 1 100000"} {
		w.do(acts(t, text))
		if !bytes.Equal(n.tape.Data, was) || n.tape.Synced != len(was) || n.up {
			t.Errorf("%s: %v", text, n.tape)
		}
	}
	w.do(acts(t, "start 1"))
	if !bytes.Equal(n.tape.Data, was[:14]) || n.tape.Synced != 14 {
		t.Errorf("started: %v", n.tape)
	}
}
