package stable_test

import (
	"bytes"
	"fmt"
	"testing"

	"conclave/api"
	"conclave/paxos"
	"conclave/stable"
)

// step of a story: what is written, or done to the tape, and what the tape is then.
type step struct {
	what string
	do   func(api.Tape) (api.Tape, api.Errno)
	want api.Tape
}

// TestStoryOfExamples: P9.2 to P9.8: written, synced, crashed, recovered and repaired in turn; told by hand.
func TestStoryOfExamples(t *testing.T) {
	promise := func(b api.Ballot) func(api.Tape) (api.Tape, api.Errno) {
		return func(x api.Tape) (api.Tape, api.Errno) { return stable.Promise(x, b) }
	}
	votes := func(v api.Vote) func(api.Tape) (api.Tape, api.Errno) {
		return func(x api.Tape) (api.Tape, api.Errno) { return stable.Vote(x, v) }
	}
	crash := func(keep int) func(api.Tape) (api.Tape, api.Errno) {
		return func(x api.Tape) (api.Tape, api.Errno) { return stable.Crash(x, keep) }
	}
	one, two := promised(1, 0), voted(vote(3, 1, 0, 77))
	high, low := promised(9, 1), promised(2, 2)
	var x api.Tape
	for _, s := range []step{
		{"a promise", promise(at(1, 0)), tape(one, 0)},
		{"it is synced", stable.Sync, tape(one, 14)},
		{"a vote", votes(vote(3, 1, 0, 77)), tape(join(one, two), 14)},
		{"a crash", crash(37), tape(join(one, two[:37]), 51)},
		{"a promise behind what is torn", promise(at(9, 1)), tape(join(one, two[:37], high), 51)},
		{"all of that is cut off", stable.Repair, tape(one, 14)},
		{"the vote again", votes(vote(3, 1, 0, 77)), tape(join(one, two), 14)},
		{"nothing is to be cut off", stable.Repair, tape(join(one, two), 14)},
		{"a crash that keeps all", crash(38), tape(join(one, two), 52)},
		{"a high promise", promise(at(9, 1)), tape(join(one, two, high), 52)},
		{"a low one, which is refused when it is read", promise(at(2, 2)), tape(join(one, two, high, low), 52)},
		{"it is cut off", stable.Repair, tape(join(one, two, high), 52)},
		{"a crash that keeps nothing", crash(0), tape(join(one, two), 52)},
	} {
		got, e := s.do(x)
		wantTape(t, s.what, got, e, s.want)
		x = got
	}
	wantRecover(t, "in the end", x.Data, acceptor(at(1, 0), vote(3, 1, 0, 77)), 52)
}

// story: a tape, and the acceptors that came of its records, with where each record ends.
type story struct {
	tape  api.Tape
	after []api.Acceptor // of the first so many records
	ends  []int
}

// write: a ballot or a vote that the acceptor takes is written.
func (s *story) write(t *testing.T, d *die) {
	t.Helper()
	a := s.after[len(s.after)-1]
	b := at(a.Promised.Round+d.upTo(2), d.upTo(4))
	v := vote(d.upTo(5), b.Round, b.Node, d.upTo(1000))
	next, e := paxos.Accept(a, v)
	got, f := stable.Vote(s.tape, v)
	if d.upTo(1) == 0 {
		next, _, e = paxos.Promise(a, b)
		got, f = stable.Promise(s.tape, b)
	}
	if e != api.OK {
		return // it is not taken, hence not written
	}
	if f != api.OK || got.Synced != s.tape.Synced || !bytes.HasPrefix(got.Data, s.tape.Data) {
		t.Fatalf("%s became %s, %d", brief(s.tape), brief(got), int(f))
	}
	s.tape, s.after, s.ends = got, append(s.after, next), append(s.ends, len(got.Data))
}

// crash and start again: what was synced is there, and no more is than was written.
func (s *story) crash(t *testing.T, keep int) {
	t.Helper()
	synced := 0
	for synced+1 < len(s.ends) && s.ends[synced+1] <= s.tape.Synced {
		synced++
	}
	torn, e := stable.Crash(s.tape, keep)
	if e != api.OK {
		t.Fatalf("%s: %d", brief(s.tape), int(e))
	}
	a, n, e := stable.Recover(torn)
	count := 0
	for count+1 < len(s.ends) && s.ends[count+1] <= len(torn.Data) {
		count++
	}
	if e != api.OK || n != s.ends[count] || !same(a, s.after[count]) || count < synced {
		t.Fatalf("%s: %v of %d bytes, %d; %d records, of which %d were synced", brief(torn), a, n, int(e), count, synced)
	}
	mended, e := stable.Repair(torn)
	wantTape(t, "Repair", mended, e, tape(s.tape.Data[:n], n))
	s.tape, s.after, s.ends = mended, s.after[:count+1], s.ends[:count+1]
}

// TestNothingSyncedIsLost: what comes of it (P9.2 to P9.8): whenever it crashes and whatever is kept then, the acceptor is what its records made of it up to some place, and that is not ahead of what was synced.
func TestNothingSyncedIsLost(t *testing.T) {
	crashes := 0
	for seed := range 60 {
		d := die(seed)
		s := story{after: []api.Acceptor{{}}, ends: []int{0}}
		for range 60 {
			switch d.upTo(9) {
			case 0, 1:
				x, e := stable.Sync(s.tape)
				wantTape(t, fmt.Sprint("Sync, seed ", seed), x, e, tape(s.tape.Data, len(s.tape.Data)))
				s.tape = x
			case 2:
				s.crash(t, d.upTo(120))
				crashes++
			default:
				s.write(t, &d)
			}
		}
		for keep := range 40 {
			last := s
			last.crash(t, keep)
		}
	}
	if crashes < 100 {
		t.Errorf("only %d crashes: the test says little", crashes)
	}
}
