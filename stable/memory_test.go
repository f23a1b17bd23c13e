package stable_test

import (
	"bytes"
	"fmt"
	"slices"
	"testing"

	"conclave/api"
	"conclave/stable"
)

// scribble over a list and its spare room.
func scribble(b []byte) {
	b = b[:cap(b)]
	for i := range b {
		b[i] ^= 0xa5
	}
}

// calls: what each call answers to a tape, and whether that is refused.
var calls = map[string]func(api.Tape) (api.Tape, api.Errno){
	"Promise":       func(x api.Tape) (api.Tape, api.Errno) { return stable.Promise(x, at(65536, 4)) },
	"wrong Promise": func(x api.Tape) (api.Tape, api.Errno) { return stable.Promise(x, at(0, 0)) },
	"Vote":          func(x api.Tape) (api.Tape, api.Errno) { return stable.Vote(x, vote(3, 65536, 4, 5)) },
	"wrong Vote":    func(x api.Tape) (api.Tape, api.Errno) { return stable.Vote(x, vote(40, 1, 0, 5)) },
	"Sync":          stable.Sync,
	"Crash with 0":  func(x api.Tape) (api.Tape, api.Errno) { return stable.Crash(x, 0) },
	"Crash with 9":  func(x api.Tape) (api.Tape, api.Errno) { return stable.Crash(x, 9) },
	"Crash with -1": func(x api.Tape) (api.Tape, api.Errno) { return stable.Crash(x, -1) },
	"Repair":        stable.Repair,
}

// someTapes: tapes that may be, of records and of none, and ones that may not be.
func someTapes() []api.Tape {
	all, _ := toldUpTo(len(told))
	out := []api.Tape{{}, tape(all, 0), tape(all, len(all)), tape(all[:len(all)-3], 14), tape(join(all, []byte{9, 1}), len(all)+1)}
	return append(append(out, rightTapes()...), wrongTapes()...)
}

// TestTapesStay: P9.1 to P9.8: a tape that is handed in, with what is behind it, is not changed, and not kept, whether a call is refused or not; answers are new memory.
func TestTapesStay(t *testing.T) {
	for name, call := range calls {
		for _, x := range someTapes() {
			what := name + " of " + brief(x)
			room := join(x.Data, pattern(100, 8))
			before := slices.Clone(room)
			x.Data = room[:len(x.Data)]
			first, e := call(x)
			if !bytes.Equal(room, before) {
				t.Fatalf("%s: a tape that was handed in is changed", what)
			}
			second, f := call(x)
			if e != f || first.Synced != second.Synced || !bytes.Equal(first.Data, second.Data) {
				t.Fatalf("%s: %s, and then %s", what, brief(first), brief(second))
			}
			kept := slices.Clone(second.Data)
			scribble(first.Data)
			if !bytes.Equal(room, before) {
				t.Fatalf("%s: the answer shares memory with a tape that was handed in", what)
			}
			scribble(room)
			if !bytes.Equal(second.Data, kept) {
				t.Errorf("%s: an answer hangs on another, or on what was handed in", what)
			}
		}
	}
}

// TestRecoverKeepsNothing: P9.7: a tape that is recovered stays, and two acceptors of it have nothing in common.
func TestRecoverKeepsNothing(t *testing.T) {
	for _, x := range someTapes() {
		room := join(x.Data, pattern(100, 8))
		before := slices.Clone(room)
		x.Data = room[:len(x.Data)]
		first, n, e := stable.Recover(x)
		second, m, f := stable.Recover(x)
		if !same(first, second) || n != m || e != f {
			t.Fatalf("%s: %v, %d, and then %v, %d", brief(x), first, n, second, m)
		}
		said := fmt.Sprint(second)
		votes := first.Votes[:cap(first.Votes)]
		for i := range votes {
			votes[i] = vote(-7, -7, -7, -7)
		}
		if !bytes.Equal(room, before) {
			t.Fatalf("%s is changed", brief(x))
		}
		scribble(room)
		if fmt.Sprint(second) != said {
			t.Errorf("%s became %v: an acceptor hangs on another, or on the tape", said, second)
		}
	}
}

// TestTwoFromOne: P9.2: a tape that is handed in twice makes two that have nothing in common.
func TestTwoFromOne(t *testing.T) {
	one, _ := stable.Promise(api.Tape{}, at(1, 0))
	two, e := stable.Promise(one, at(2, 0))
	three, f := stable.Vote(one, vote(3, 3, 0, 5))
	four, g := stable.Promise(one, at(4, 0))
	wantTape(t, "one", one, api.OK, tape(promised(1, 0), 0))
	wantTape(t, "two", two, e, tape(join(promised(1, 0), promised(2, 0)), 0))
	wantTape(t, "three", three, f, tape(join(promised(1, 0), voted(vote(3, 3, 0, 5))), 0))
	wantTape(t, "four", four, g, tape(join(promised(1, 0), promised(4, 0)), 0))
}
