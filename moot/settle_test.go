package moot

import (
	"fmt"
	"slices"
	"testing"

	"conclave/api"
)

// counted: how many fair rounds P12.8 asks for behind a script.
func counted(l []api.Act) int {
	rounds := 100
	for _, a := range l {
		switch a.Kind {
		case api.Submit, api.Lead, api.Double, api.Crash:
			rounds += 20
		}
	}
	return rounds
}

// settle behind what was watched: the nodes that are to be up are started (the others have crashed), one of them leads, enough fair rounds go by, it leads again, and as many go by.
func (w *watch) settle(leader int, up ...int) {
	w.t.Helper()
	for n := range api.MaxNodes {
		if !slices.Contains(up, n) {
			w.do([]api.Act{{Kind: api.Crash, Node: n}})
		}
	}
	rounds := fair(counted(w.acts))
	for _, n := range up {
		w.do([]api.Act{{Kind: api.Start, Node: n}})
	}
	for range 2 {
		w.do([]api.Act{{Kind: api.Lead, Node: leader}})
		w.do(rounds)
	}
	w.wantSettled(up)
	w.wantQuiet()
}

// wantSettled: all has come about that P12.8 says, of the nodes that are up.
func (w *watch) wantSettled(up []int) {
	w.t.Helper()
	log := w.now.Logs[up[0]]
	if len(log) == api.MaxSlots {
		w.t.Fatalf("no slot is left: %v", log)
	}
	if !slices.Equal(log, w.agreed) {
		w.t.Fatalf("the node %d has done %v, others had %v\n%s", up[0], log, w.agreed, brief(w.acts))
	}
	for _, n := range up {
		if !slices.Equal(w.now.Logs[n], log) {
			w.t.Fatalf("the node %d has done %v, the node %d %v\n%s", n, w.now.Logs[n], up[0], log, brief(w.acts))
		}
		for _, c := range w.since[n] {
			if !slices.Contains(log, c) {
				w.t.Fatalf("%v came to the node %d, done is %v\n%s", c, n, log, brief(w.acts))
			}
			if !slices.ContainsFunc(w.now.Told, func(x api.Told) bool { return x.Node == n && x.Client == c.Client && x.Seq == c.Seq }) {
				w.t.Fatalf("the node %d has not told the answer to %v: %v\n%s", n, c, w.now.Told, brief(w.acts))
			}
		}
		if x := w.m.nodes[n]; len(w.wants[n]) != 0 || len(x.wants) != 0 || len(x.asked) != 0 {
			w.t.Fatalf("the node %d is still to tell %v, and wants %v\n%s", n, w.wants[n], x.wants, brief(w.acts))
		}
	}
}

// wantQuiet: more fair rounds do nothing, and no letter is sent in them.
func (w *watch) wantQuiet() {
	w.t.Helper()
	was := w.now
	for _, a := range fair(5) {
		w.do([]api.Act{a})
		if !same(w.now, was) || was.Flying != 0 {
			w.t.Fatalf("%v became %v\n%s", was, w.now, brief(w.acts))
		}
	}
}

// upOf: which nodes are up, by the bits of a number.
func upOf(bits int) []int {
	var l []int
	for n := range api.MaxNodes {
		if bits>>n&1 == 1 {
			l = append(l, n)
		}
	}
	return l
}

// most: numbers whose bits are more than half of the nodes.
func most() []int {
	var l []int
	for bits := range 1 << api.MaxNodes {
		if len(upOf(bits)) > api.MaxNodes/2 {
			l = append(l, bits)
		}
	}
	return l
}

// TestSettleBehindAnything: P12.8: behind drawn scripts, whoever leads then, all nodes agree on all that came and was not lost in a crash.
func TestSettleBehindAnything(t *testing.T) {
	slots := 0
	for seed := range 300 {
		d := die(5000 + seed)
		w := watched(t, d.script(t, 20+d.upTo(100)))
		w.settle(seed%5, upOf(31)...)
		slots += len(w.agreed)
		if seed%20 == 0 {
			w.run()
		}
	}
	if slots < 1000 {
		t.Errorf("only %d slots: the test says little", slots)
	}
}

// TestSettleWithoutTwo: P12.8: the same of more than half of the nodes, whichever they are, while the others are down.
func TestSettleWithoutTwo(t *testing.T) {
	slots := 0
	for seed := range 20 {
		for i, bits := range most() {
			d := die(7000 + 100*seed + i)
			w := watched(t, d.script(t, 20+d.upTo(100)))
			up := upOf(bits)
			w.settle(up[seed%len(up)], up...)
			slots += len(w.agreed)
		}
	}
	if slots < 500 {
		t.Errorf("only %d slots: the test says little", slots)
	}
}

// TestSettleAgain: P12.8: once settled, they go on: other nodes crash and lead, more comes, and all is settled again.
func TestSettleAgain(t *testing.T) {
	for seed := range 20 {
		d := die(9000 + seed)
		w := newWatch(t)
		for _, bits := range []int{31, 0b00111, 0b11100, 0b01011, 31} {
			w.do(d.script(t, 12))
			up := upOf(bits)
			w.settle(up[d.upTo(len(up)-1)], up...)
		}
	}
}

// TestSettleManyCommands: P12.8: as many commands as there are slots but one, which come to all nodes at once.
func TestSettleManyCommands(t *testing.T) {
	var l []api.Act
	for i := range api.MaxSlots - 1 {
		l = append(l, submits(t, put(i%8, i/8, i%3, i), i%5)...)
	}
	for leader := range api.MaxNodes {
		w := watched(t, l)
		w.settle(leader, upOf(31)...)
		if len(w.agreed) != api.MaxSlots-1 {
			t.Errorf("the node %d led: done is %v", leader, w.agreed)
		}
	}
}

// TestNoSlotIsWasted: P12.8: nothing but what came takes a slot, so that what comes finds one, however often nodes lead.
func TestNoSlotIsWasted(t *testing.T) {
	for seed := range 100 {
		d := die(11000 + seed)
		w := watched(t, d.script(t, 150))
		for _, c := range w.agreed {
			if c == (api.Command{}) {
				t.Fatalf("a Noop in %v\n%s", w.agreed, brief(w.acts))
			}
		}
	}
}

// TestNoMoreSlots: P12.6, P12.8: more comes than there are slots: all of them are used, nothing is done twice, and what is left over is not told; then it is quiet, too.
func TestNoMoreSlots(t *testing.T) {
	var l []api.Act
	for i := range 3 * api.MaxSlots {
		l = append(l, submits(t, put(i%8, i/8, i%3, i), i%5)...)
	}
	w := watched(t, join(l, acts(t, "lead 0"), fair(200), acts(t, "lead 3"), fair(200)))
	for n, log := range w.now.Logs {
		if len(log) != api.MaxSlots || !slices.Equal(log, w.agreed) {
			t.Errorf("the node %d has done %v, want %v", n, log, w.agreed)
		}
	}
	if len(w.now.Told) != api.MaxSlots {
		t.Errorf("%d answers", len(w.now.Told))
	}
	w.wantQuiet()
}

// TestTwoAreNotEnough: P12.6: just two nodes that are up agree on nothing, whoever leads; once a third one is up they do.
func TestTwoAreNotEnough(t *testing.T) {
	c := put(1, 0, 2, 77)
	for a := range api.MaxNodes {
		for b := range a {
			w := newWatch(t)
			for n := range api.MaxNodes {
				if n != a && n != b {
					w.do(acts(t, fmt.Sprint("crash ", n, " 0")))
				}
			}
			w.do(submits(t, c, a, b))
			for range 3 {
				w.do(acts(t, fmt.Sprint("lead ", a)))
				w.do(fair(30))
				w.do(acts(t, fmt.Sprint("lead ", b)))
				w.do(fair(30))
			}
			if len(w.agreed) != 0 || len(w.now.Told) != 0 {
				t.Errorf("the nodes %d and %d have done %v, and told %v", a, b, w.agreed, w.now.Told)
			}
			third := 3 - a%3 // any other one
			for third == a || third == b {
				third = (third + 1) % api.MaxNodes
			}
			w.settle(a, a, b, third)
			if !slices.Equal(w.agreed, []api.Command{c}) || len(w.now.Told) != 2 {
				t.Errorf("the nodes %d, %d and %d have done %v, and told %v", a, b, third, w.agreed, w.now.Told)
			}
		}
	}
}
