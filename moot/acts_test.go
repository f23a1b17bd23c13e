package moot

import (
	"fmt"
	"slices"
	"testing"

	"conclave/api"
)

// answer: what a node tells of a command.
func answer(node int, c api.Command, code api.Errno, value int) api.Told {
	return api.Told{Node: node, Client: c.Client, Seq: c.Seq, Answer: api.Answer{Code: code, Value: value}}
}

// TestTheWhole: the document's example: a Put that comes to one node, then again to another one.
func TestTheWhole(t *testing.T) {
	c := put(1, 0, 2, 77)
	b, e := Pack(0, api.Token{Client: 1, Rights: api.MayWrite, Until: 9}, c)
	if e != api.OK {
		t.Fatal(e)
	}
	one := []api.Act{{Kind: api.Submit, Data: b}}
	o := ran(t, one, acts(t, "lead 0"), fair(120))
	wantAll(t, "once", o, c)
	wantTold(t, "once", o, answer(0, c, 0, 77))
	again := []api.Act{{Kind: api.Submit, Node: 3, Data: b}}
	o = ran(t, one, acts(t, "lead 0"), fair(120), again)
	wantTold(t, "again", o, answer(0, c, 0, 77), answer(3, c, 0, 77))
	o = ran(t, one, acts(t, "lead 0"), fair(120), again, fair(120))
	wantAll(t, "again", o, c)
	wantTold(t, "again, and fair rounds", o, answer(0, c, 0, 77), answer(3, c, 0, 77))
}

// TestSeveralNodes: P12.5, P12.6: commands that come to several nodes, of which one leads.
func TestSeveralNodes(t *testing.T) {
	for leader := range api.MaxNodes {
		w := newWatch(t)
		for n := range api.MaxNodes {
			w.do(submits(t, put(n, 0, n, 10+n), n))
		}
		w.do(acts(t, fmt.Sprint("lead ", leader)))
		w.do(fair(20))
		if len(w.agreed) != 5 || len(w.now.Told) != 5 {
			t.Errorf("the node %d led: done is %v, told %v", leader, w.agreed, w.now.Told)
		}
		// it goes on without another Lead
		for n := range api.MaxNodes {
			w.do(submits(t, get(n, 1, n), n))
			w.do(fair(6))
			if told := w.now.Told[len(w.now.Told)-1]; told != answer(n, get(n, 1, n), 0, 10+n) {
				t.Errorf("the node %d led: told %v", leader, told)
			}
		}
		wantAll(t, "in the end", w.now, w.agreed...)
	}
}

// TestNobodyLeads: P12.5: nobody begins a round unless it is told to.
func TestNobodyLeads(t *testing.T) {
	o := ran(t, submits(t, put(1, 0, 2, 77), 0, 1, 2, 3, 4), fair(200))
	wantAll(t, "nobody leads", o)
	if o.Flying != 0 || len(o.Told) != 0 {
		t.Error(o)
	}
	w := watched(t, join(submits(t, put(1, 0, 2, 77), 0, 1, 2, 3, 4), acts(t, "step 0; step 1; step 2; step 3; step 4")))
	if w.now.Flying != 0 {
		t.Errorf("%d letters", w.now.Flying)
	}
}

// TestTwoLead: P12.5, P12.6: of two that lead at once the one with the greater ballot proposes, and what came to both is agreed on.
func TestTwoLead(t *testing.T) {
	one, two := put(1, 0, 2, 77), put(2, 0, 2, 88)
	for a := range api.MaxNodes {
		for b := range api.MaxNodes {
			if a == b {
				continue
			}
			w := watched(t, join(submits(t, one, a), submits(t, two, b), acts(t, fmt.Sprint("lead ", a, "; lead ", b)), fair(30)))
			if len(w.agreed) != 2 {
				t.Errorf("%d and %d lead: done is %v", a, b, w.agreed)
			}
			wantAll(t, fmt.Sprint(a, " and ", b, " lead"), w.now, w.agreed...)
		}
	}
}

// TestTheLastOneProposes: P12.5: who began the last round, which all have promised, is who proposes, though another one led ahead of it.
func TestTheLastOneProposes(t *testing.T) {
	begin := join(acts(t, "lead 0"), fair(10), acts(t, "lead 4"), fair(10))
	o := ran(t, begin, acts(t, "crash 0 0"), submits(t, put(1, 0, 2, 77), 2), fair(10))
	if len(o.Logs[2]) != 1 || len(o.Told) != 1 {
		t.Errorf("without the one that led first: %v", o)
	}
	o = ran(t, begin, acts(t, "crash 4 0"), submits(t, put(1, 0, 2, 77), 2), fair(10))
	if len(o.Logs[2]) != 0 || len(o.Told) != 0 {
		t.Errorf("without the one that led last: %v", o)
	}
}

// TestAboveAllThatItKnows: P12.5: a round of a node that was cut off is refused, since another one is above it; with the next one it leads.
func TestAboveAllThatItKnows(t *testing.T) {
	first, second := put(1, 0, 2, 77), put(2, 0, 2, 88)
	// the node 4 is down while others lead five times
	w := watched(t, acts(t, "crash 4 0"))
	for i := range 5 {
		w.do(acts(t, fmt.Sprint("lead ", i%4)))
		w.do(fair(4))
	}
	w.do(join(submits(t, first, 0), fair(10), acts(t, "crash 0 0; start 4"), submits(t, second, 4), acts(t, "lead 4"), fair(20)))
	if slices.Contains(w.agreed, second) {
		t.Errorf("a round below what others have promised was taken: %v", w.agreed)
	}
	w.do(join(acts(t, "lead 4"), fair(20)))
	wantLogs(t, "the next round", w.now, nil, []api.Command{first, second}, []api.Command{first, second}, []api.Command{first, second}, []api.Command{first, second})
}

// replies: how many letters each node sends in a piece behind a script.
func replies(t *testing.T, l []api.Act) [api.MaxNodes]int {
	t.Helper()
	var count [api.MaxNodes]int
	w := watched(t, l)
	for n := range api.MaxNodes {
		was := w.now.Flying
		w.do(acts(t, fmt.Sprint("step ", n)))
		count[n] = w.now.Flying - was
	}
	return count
}

// TestPlaces: P12.5: the letters of a node that leads, to each of the others in their order, carried, lost and doubled at each place, counted round and round.
func TestPlaces(t *testing.T) {
	begin := acts(t, "lead 2; step 2")
	to := []int{0, 1, 3, 4}
	for _, at := range []int{0, 1, 2, 3, 4, 5, 6, 7, 8, 1001, api.MaxAt - 1, api.MaxAt} {
		n := to[at%4]
		var one, others, both [api.MaxNodes]int
		one[n] = 1
		for _, x := range to {
			others[x], both[x] = 1, 1
		}
		others[n], both[n] = 0, 2
		act := func(word string) []api.Act { return acts(t, fmt.Sprint(word, " ", at)) }
		for what, x := range map[string]struct {
			l      []api.Act
			flying int
			want   [api.MaxNodes]int
		}{
			"nothing":          {nil, 4, [api.MaxNodes]int{}},
			"carried":          {act("carry"), 3, one},
			"lost":             {act("lose"), 3, [api.MaxNodes]int{}},
			"lost, and all":    {join(act("lose"), acts(t, "all")), 0, others},
			"doubled":          {act("double"), 4, one},
			"doubled, lost":    {join(act("double"), act("lose")), 3, one},
			"doubled, all":     {join(act("double"), acts(t, "all")), 0, both},
			"doubled, doubled": {join(act("double"), act("double"), act("lose"), acts(t, "all")), 0, both},
			"carried, and all": {join(act("carry"), acts(t, "all")), 0, [api.MaxNodes]int{1, 1, 0, 1, 1}},
		} {
			l := join(begin, x.l)
			if o := ran(t, l); o.Flying != x.flying {
				t.Errorf("%s, at %d: %d letters, want %d", what, at, o.Flying, x.flying)
			}
			if got := replies(t, l); got != x.want {
				t.Errorf("%s, at %d: replies %v, want %v", what, at, got, x.want)
			}
		}
	}
}

// TestPlacesBehindOthers: P12.5: places are counted from the letter that was sent first on, whoever sent it, and those behind one that is gone move up.
func TestPlacesBehindOthers(t *testing.T) {
	begin := acts(t, "lead 2; step 2; lead 0; step 0") // to 0, 1, 3, 4 from 2, then to 1, 2, 3, 4 from 0
	to := []int{0, 1, 3, 4, 1, 2, 3, 4}
	for first := range 8 {
		for second := range 7 {
			left := slices.Delete(slices.Clone(to), first, first+1)
			var want [api.MaxNodes]int
			want[left[second]]++
			l := join(begin, acts(t, fmt.Sprint("lose ", first, "; carry ", second+7)))
			if got := replies(t, l); got != want {
				t.Errorf("lost at %d, carried at %d: replies %v, want %v", first, second, got, want)
			}
		}
	}
}

// TestNoLetters: P12.5: with no letter on its way nothing is carried, lost or doubled.
func TestNoLetters(t *testing.T) {
	for _, begin := range [][]api.Act{nil, join(submits(t, put(1, 0, 2, 77), 0), acts(t, "lead 0")), join(submits(t, put(1, 0, 2, 77), 0), acts(t, "lead 0"), fair(20))} {
		was := ran(t, begin)
		for _, word := range []string{"carry 0", "lose 0", "double 0", "carry 9", "lose 1048576", "double 1048575", "all"} {
			if o := ran(t, begin, acts(t, word), acts(t, word)); !same(o, was) {
				t.Errorf("%s: %v became %v", word, was, o)
			}
		}
	}
}

// TestPiecesAlone: P12.5: letters are sent, commands done and answers told in pieces alone: what All brings is seen when the node does a piece.
func TestPiecesAlone(t *testing.T) {
	c := put(1, 0, 2, 77)
	w := watched(t, join(submits(t, c, 1), acts(t, "lead 1")))
	if w.now.Flying != 0 {
		t.Errorf("a Lead has sent %d letters", w.now.Flying)
	}
	pieces := 0
	for len(w.agreed) == 0 && pieces < 200 {
		for _, a := range fair(1) {
			was := w.now
			w.do([]api.Act{a})
			if a.Kind == api.All && (w.now.Flying != 0 || len(w.now.Told) != len(was.Told)) {
				t.Fatalf("All has made %v of %v", w.now, was)
			}
			pieces++
		}
	}
	wantTold(t, "in a piece", w.now, answer(1, c, 0, 77))
}

// TestBad: P12.5, P12.7: what Open refuses is counted, for the node that it came to, and nothing else happens.
func TestBad(t *testing.T) {
	var l []api.Act
	want := [api.MaxNodes]int{}
	for n := range api.MaxNodes {
		for i := range n {
			good := packed(t, put(1, i, 2, 77))
			l = append(l, api.Act{Kind: api.Submit, Node: n, Data: [][]byte{nil, {8}, {1}, good[:62]}[i]})
			want[n]++
		}
	}
	o := ran(t, l, acts(t, "lead 0"), fair(20))
	wantAll(t, "all is refused", o)
	if o.Bad != want || len(o.Told) != 0 {
		t.Errorf("%v, want %v", o, want)
	}
	// the count outlasts a crash; what comes to a node that is down is not counted
	o = ran(t, l, acts(t, "crash 4 0; submit 4 ; submit 4 00"))
	if o.Bad != want {
		t.Errorf("behind a crash: %v, want %v", o.Bad, want)
	}
	o = ran(t, l, acts(t, "crash 4 0; submit 4 ; start 4; submit 4 "))
	want[4]++
	if o.Bad != want {
		t.Errorf("behind a start: %v, want %v", o.Bad, want)
	}
}

// TestTimes: P12.5: the time is the number of commands that the node has done, whatever others have done.
func TestTimes(t *testing.T) {
	var begin []api.Act
	for i := range 3 {
		begin = append(begin, submits(t, put(1, i, 2, i), 0)...)
	}
	begin = join(begin, acts(t, "lead 0"), fair(20)) // all have done three
	late := func(node, until int) []api.Act {
		return []api.Act{{Kind: api.Submit, Node: node, Data: packedUntil(t, get(2, 0, 2), until)}}
	}
	for until := range 6 {
		for n := range api.MaxNodes {
			w := watched(t, join(begin, late(n, until), fair(10)))
			if is := len(w.agreed) == 4; is != (until >= 3) || (w.now.Bad[n] == 0) != is {
				t.Errorf("until %d, to the node %d: done is %v, bad %v", until, n, w.agreed, w.now.Bad)
			}
		}
	}
	// a node that has done nothing since it is up takes what was over long ago
	w := watched(t, join(begin, acts(t, "crash 3 0; start 3"), late(3, 0), late(2, 0), acts(t, "lead 0"), fair(20)))
	if len(w.agreed) != 4 || w.now.Bad != [api.MaxNodes]int{0, 0, 1, 0, 0} {
		t.Errorf("done is %v, bad %v", w.agreed, w.now.Bad)
	}
	wantTold(t, "the last", api.Outcome{Told: w.now.Told[3:]}, answer(3, get(2, 0, 2), 0, 2))
}

// TestOnceMore: P12.5: a command that comes once more: to a node that is still to do it, that has done it, or that has not heard of it; each coming is answered once at most.
func TestOnceMore(t *testing.T) {
	c := put(1, 0, 2, 77)
	lead := join(acts(t, "lead 0"), fair(20))
	one := answer(0, c, 0, 77)
	o := ran(t, submits(t, c, 0, 0, 0), lead)
	wantAll(t, "thrice to one node", o, c)
	wantTold(t, "thrice to one node, which is still to do it", o, one)
	o = ran(t, submits(t, c, 0), lead, submits(t, c, 0, 0))
	wantTold(t, "twice more to one that has done it", o, one, one, one)
	o = ran(t, submits(t, c, 0), lead, submits(t, c, 0, 0), fair(20))
	wantAll(t, "twice more to one that has done it, and fair rounds", o, c)
	wantTold(t, "twice more to one that has done it, and fair rounds", o, one, one, one)
	o = ran(t, submits(t, c, 4, 0, 2), lead)
	wantAll(t, "to three nodes", o, c)
	if len(o.Told) != 3 || !slices.Contains(o.Told, one) || !slices.Contains(o.Told, answer(4, c, 0, 77)) || !slices.Contains(o.Told, answer(2, c, 0, 77)) {
		t.Errorf("to three nodes: told %v", o.Told)
	}
	// a node that has crashed since has not to tell it; when it comes again, it has
	o = ran(t, submits(t, c, 4, 0), acts(t, "crash 4 0; start 4"), lead)
	wantAll(t, "lost in a crash", o, c)
	wantTold(t, "lost in a crash", o, one)
	o = ran(t, submits(t, c, 0), lead, acts(t, "crash 4 0; start 4"), submits(t, c, 4))
	wantTold(t, "to one that has forgotten", o, one)
	o = ran(t, submits(t, c, 0), lead, acts(t, "crash 4 0; start 4"), submits(t, c, 4), lead)
	wantAll(t, "to one that has forgotten", o, c)
	wantTold(t, "to one that has forgotten, when it does it anew", o, one, answer(4, c, 0, 77))
	// who told it ahead of a crash does not tell it again when it does it anew
	o = ran(t, submits(t, c, 0), lead, acts(t, "crash 0 0; start 0"), lead)
	wantAll(t, "done anew", o, c)
	wantTold(t, "done anew", o, one)
}

// TestAnswersOfNow: P12.5: what is told at once is what Do makes of it now; what is done is answered by the chain.
func TestAnswersOfNow(t *testing.T) {
	lead := join(acts(t, "lead 0"), fair(20))
	a, b, old, gone := put(1, 3, 2, 77), get(1, 4, 2), put(1, 2, 2, 5), put(2, 0, 2, 9)
	w := watched(t, join(submits(t, a, 0), lead, submits(t, b, 0), fair(10)))
	w.do(submits(t, a, 0)) // it was done, and another one of the client's behind it
	w.do(join(submits(t, old, 3), fair(10), submits(t, revoke(1, 5, 2), 1), fair(10)))
	w.do(join(submits(t, gone, 2), fair(10))) // the client was revoked, though its token still allows it
	w.do(submits(t, gone, 4))
	wantTold(t, "answers", w.now, answer(0, a, 0, 77), answer(0, b, 0, 77), answer(0, a, api.ErrOld, 0), answer(3, old, api.ErrOld, 0),
		answer(1, revoke(1, 5, 2), 0, 0), answer(2, gone, api.ErrRight, 0), answer(4, gone, api.ErrRight, 0))
	wantAll(t, "answers", w.now, a, b, old, revoke(1, 5, 2), gone)
	if w.now.Bad != [api.MaxNodes]int{} {
		t.Errorf("bad %v", w.now.Bad)
	}
	w.run()
}

// TestAnotherOfTheSameNumber: P12.5: a command with the client and the Seq of one that was done is not that very one: it is agreed on, and has its answer.
func TestAnotherOfTheSameNumber(t *testing.T) {
	a, b := put(1, 0, 2, 77), put(1, 0, 2, 78)
	o := ran(t, submits(t, a, 0), acts(t, "lead 0"), fair(10), submits(t, b, 0))
	wantTold(t, "not at once", o, answer(0, a, 0, 77))
	o = ran(t, submits(t, a, 0), acts(t, "lead 0"), fair(10), submits(t, b, 0), fair(10))
	wantAll(t, "both", o, a, b)
	wantTold(t, "both", o, answer(0, a, 0, 77), answer(0, b, 0, 77))
}

// TestDown: P12.5: what a node that is down does not do, and what comes to it is lost.
func TestDown(t *testing.T) {
	c := put(1, 0, 2, 77)
	was := ran(t, acts(t, "crash 1 0"))
	if was.Up != [api.MaxNodes]bool{true, false, true, true, true} {
		t.Error(was)
	}
	for _, l := range [][]api.Act{submits(t, c, 1), acts(t, "submit 1 "), acts(t, "step 1"), acts(t, "lead 1"), acts(t, "crash 1 0"), acts(t, "crash 1 100000"), acts(t, "lead 1; step 1")} {
		if o := ran(t, acts(t, "crash 1 0"), l); !same(o, was) {
			t.Errorf("%v: %v, want %v", l, o, was)
		}
	}
	// nothing of that is seen when it is up again
	o := ran(t, acts(t, "crash 1 0"), submits(t, c, 1), acts(t, "lead 1; start 1"), fair(20), acts(t, "lead 0"), fair(20))
	wantAll(t, "what came to a node that was down", o)
	// a letter that comes to it is lost; one that is on its way until it is up again is not
	if got := replies(t, acts(t, "lead 0; step 0; crash 1 0; carry 0; start 1; step 1; all; all")); got[1] != 0 {
		t.Errorf("a lost letter: %v", got)
	}
	if got := replies(t, acts(t, "lead 0; step 0; crash 1 0; double 0; start 1; step 1; carry 0")); got[1] != 1 {
		t.Errorf("a letter that was doubled while its node was down: %v", got)
	}
}

// TestStartAndCrashTwice: P12.5: the Start of a node that is up does nothing; nor does the Crash of one that is down, whatever it says is kept.
func TestStartAndCrashTwice(t *testing.T) {
	c := put(1, 0, 2, 77)
	begin := join(submits(t, c, 3), acts(t, "lead 0"), fair(3))
	for n := range api.MaxNodes {
		start := acts(t, fmt.Sprint("start ", n))
		if o, want := ran(t, begin, start, start, fair(10)), ran(t, begin, fair(10)); !same(o, want) {
			t.Errorf("a start: %v, want %v", o, want)
		}
		once, twice := acts(t, fmt.Sprint("crash ", n, " 5")), acts(t, fmt.Sprint("crash ", n, " 5; crash ", n, " 0"))
		more := join(start, acts(t, fmt.Sprint("lead ", n)), fair(20))
		if o, want := ran(t, begin, twice, more), ran(t, begin, once, more); !same(o, want) {
			t.Errorf("two crashes: %v, want %v", o, want)
		}
	}
}

// TestOutcome: P12.7: letters, nodes, logs, refusals and answers behind a script that is told by hand.
func TestOutcome(t *testing.T) {
	a, b := put(1, 0, 2, 77), get(2, 0, 2)
	w := watched(t, join(submits(t, a, 1), submits(t, b, 2), acts(t, "submit 2 ; submit 2 09; lead 3"), fair(20), acts(t, "crash 0 0; crash 4 9; start 4; lead 2; step 2; lose 1")))
	o := w.now
	if o.Flying != 3 || o.Up != [api.MaxNodes]bool{false, true, true, true, true} || o.Bad != [api.MaxNodes]int{0, 0, 2, 0, 0} {
		t.Errorf("%v", o)
	}
	both := []api.Command{a, b}
	wantLogs(t, "logs", o, nil, both, both, both, nil)
	wantTold(t, "answers", o, answer(1, a, 0, 77), answer(2, b, 0, 77))
	w.run()
}
