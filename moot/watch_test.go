package moot

import (
	"fmt"
	"slices"
	"testing"

	"conclave/api"
	"conclave/vault"
)

// watch: nodes under a script, held after each act against what the document says of it.
type watch struct {
	t      *testing.T
	m      *meeting
	acts   []api.Act
	now    api.Outcome
	came   map[api.Command]int         // how often a command came to some node that did not refuse it
	wants  [api.MaxNodes][]api.Command // what each node is to tell when it does it
	since  [api.MaxNodes][]api.Command // what came to each node since it is up and was not refused
	agreed []api.Command               // the longest log that any node had at any time
	chain  []api.Entry                 // of these
	grown  [api.Start + 1]int          // how often each kind of act made something of what it is for
}

// newWatch of nodes that have done nothing yet.
func newWatch(t *testing.T) *watch {
	m := newMeeting()
	return &watch{t: t, m: m, now: m.outcome(), came: make(map[api.Command]int)}
}

// watched: a script that was gone through.
func watched(t *testing.T, l []api.Act) *watch {
	t.Helper()
	w := newWatch(t)
	w.do(l)
	return w
}

// do acts one by one.
func (w *watch) do(l []api.Act) {
	w.t.Helper()
	for _, a := range l {
		was := w.now
		w.m.do(a)
		w.acts = append(w.acts, a)
		w.now = w.m.outcome()
		want := was
		want.Logs, want.Told = slices.Clone(was.Logs), slices.Clone(was.Told)
		w.foresee(a, was, &want)
		if !same(w.now, want) {
			w.t.Fatalf("%v: %v became %v, want %v\n%s", a, was, w.now, want, brief(w.acts))
		}
		if was.Flying > 0 || a.Kind == api.Submit {
			w.grown[a.Kind]++
		}
	}
}

// foresee what an act makes of an outcome. Of a Step it is not foreseen how much is done and how many letters are sent.
func (w *watch) foresee(a api.Act, was api.Outcome, want *api.Outcome) {
	w.t.Helper()
	n := a.Node
	switch a.Kind {
	case api.Submit:
		if was.Up[n] {
			w.foreseeSubmit(a, was, want)
		}
	case api.Step:
		if was.Up[n] {
			w.foreseeStep(n, was, want)
		}
	case api.Carry, api.Lose:
		want.Flying = max(was.Flying-1, 0)
	case api.All:
		want.Flying = 0
	case api.Crash:
		want.Up[n], want.Logs[n] = false, nil
		w.wants[n], w.since[n] = nil, nil
	case api.Start:
		want.Up[n] = true
	}
}

// foreseeSubmit to a node that is up.
func (w *watch) foreseeSubmit(a api.Act, was api.Outcome, want *api.Outcome) {
	n, log := a.Node, was.Logs[a.Node]
	c, e := Open(a.Data, len(log))
	if e != api.OK {
		want.Bad[n]++
		return
	}
	w.came[c]++
	w.since[n] = append(w.since[n], c)
	if slices.Contains(log, c) {
		_, store, _ := vault.Chain(log)
		_, answer, _ := vault.Do(store, c)
		want.Told = append(want.Told, api.Told{Node: n, Client: c.Client, Seq: c.Seq, Answer: answer})
		return
	}
	if !slices.Contains(w.wants[n], c) {
		w.wants[n] = append(w.wants[n], c)
	}
}

// foreseeStep of a node that is up: what it has done now stands behind what it had done, is what others have done there, and is told if it is to be.
func (w *watch) foreseeStep(n int, was api.Outcome, want *api.Outcome) {
	w.t.Helper()
	before, log := was.Logs[n], w.now.Logs[n]
	if len(log) < len(before) || w.now.Flying < was.Flying {
		w.t.Fatalf("a piece of the node %d: %v became %v\n%s", n, was, w.now, brief(w.acts))
	}
	want.Logs[n], want.Flying = log, w.now.Flying
	w.agree(n, log)
	for slot := len(before); slot < len(log); slot++ {
		c := log[slot]
		place := slices.Index(w.wants[n], c)
		if place < 0 {
			continue
		}
		w.wants[n] = slices.Delete(w.wants[n], place, place+1)
		want.Told = append(want.Told, api.Told{Node: n, Client: c.Client, Seq: c.Seq, Answer: w.chain[slot].Answer})
	}
}

// agree: a node's log must be alike with all that any node has ever done, and have nothing that was not asked for, and nothing twice.
func (w *watch) agree(n int, log []api.Command) {
	w.t.Helper()
	for slot, c := range log {
		if slot < len(w.agreed) {
			if w.agreed[slot] != c {
				w.t.Fatalf("the node %d has done %v in the slot %d, another %v\n%s", n, c, slot, w.agreed[slot], brief(w.acts))
			}
			continue
		}
		if c != (api.Command{}) && (w.came[c] == 0 || slices.Contains(w.agreed, c)) {
			w.t.Fatalf("the node %d has done %v in the slot %d, which came %d times, behind %v\n%s", n, c, slot, w.came[c], w.agreed, brief(w.acts))
		}
		w.agreed = append(w.agreed, c)
	}
	if len(w.chain) < len(w.agreed) {
		var e api.Errno
		if w.chain, _, e = vault.Chain(w.agreed); e != api.OK {
			w.t.Fatalf("%v is no chain: %d", w.agreed, int(e))
		}
	}
}

// run: what was watched is what Run answers.
func (w *watch) run() {
	w.t.Helper()
	if o, e := Run(w.acts); e != api.OK || !same(o, w.now) {
		w.t.Fatalf("Run: %v, %d, want %v\n%s", o, int(e), w.now, brief(w.acts))
	}
}

// kindsOf scripts: how often each kind of act is drawn, and (at 0) how often a fair round is.
func kindsOf() [][api.Start + 1]int {
	return [][api.Start + 1]int{
		{0, 1, 1, 1, 1, 1, 1, 1, 1, 1},
		{2, 3, 1, 20, 20, 2, 4, 2, 1, 2},
		{3, 5, 2, 30, 25, 0, 0, 2, 0, 0},
		{6, 6, 1, 10, 5, 1, 1, 1, 2, 3},
		{10, 8, 2, 10, 8, 4, 8, 1, 1, 2},
		{1, 3, 3, 25, 30, 6, 6, 1, 3, 4},
		{12, 6, 3, 4, 4, 1, 1, 1, 4, 4},
		{0, 2, 4, 30, 40, 0, 10, 0, 2, 3},
	}
}

// script that looks drawn: so many acts and fair rounds.
func (d *die) script(t *testing.T, count int) []api.Act {
	t.Helper()
	kinds := kindsOf()
	often := kinds[d.upTo(len(kinds)-1)]
	clients := d.upTo(3)
	total := 0
	for _, x := range often {
		total += x
	}
	var l []api.Act
	for range count {
		at, kind := d.upTo(total-1), 0
		for at >= often[kind] {
			at -= often[kind]
			kind++
		}
		if kind == 0 {
			l = append(l, fair(1)...)
		} else {
			l = append(l, d.act(t, kind, clients))
		}
	}
	return l
}

// act of a kind that looks drawn; the clients are those up to a number.
func (d *die) act(t *testing.T, kind, clients int) api.Act {
	t.Helper()
	a := api.Act{Kind: kind}
	switch kind {
	case api.Carry, api.Lose, api.Double:
		a.At = d.upTo(30)
	case api.All:
	case api.Crash:
		a.Node, a.Keep = d.upTo(4), d.upTo(1)*d.upTo(120)
	case api.Submit:
		a.Node, a.Data = d.upTo(4), d.record(t, clients)
	default:
		a.Node = d.upTo(4)
	}
	return a
}

// record that looks drawn, of one of few commands; some are refused.
func (d *die) record(t *testing.T, clients int) []byte {
	t.Helper()
	c := put(d.upTo(clients), d.upTo(4), d.upTo(2), d.upTo(1))
	switch d.upTo(5) {
	case 0:
		c = get(c.Client, c.Seq, c.Name)
	case 1:
		c = revoke(c.Client, c.Seq, c.Name)
	}
	switch d.upTo(9) {
	case 0:
		return packedUntil(t, c, d.upTo(3))
	case 1:
		return d.bytes(d.upTo(70))
	}
	return packed(t, c)
}

// TestWatchedScripts: P12.5, P12.6, P12.7: drawn scripts, act by act: logs that are alike at each time, with nothing in them that did not come and nothing twice, answers that are the chain's and are told when they are to be, and nothing else that changes.
func TestWatchedScripts(t *testing.T) {
	var grown [api.Start + 1]int
	long, told, bad := 0, 0, 0
	for seed := range 800 {
		d := die(seed)
		w := watched(t, d.script(t, 300))
		if seed%10 == 0 {
			w.run()
		}
		for kind, n := range w.grown {
			grown[kind] += n
		}
		long += len(w.agreed)
		told += len(w.now.Told)
		for _, n := range w.now.Bad {
			bad += n
		}
	}
	said := fmt.Sprint(long, " slots, ", told, " answers, ", bad, " bad, ", grown)
	if long < 2000 || told < 1000 || bad < 1000 || slices.Min(grown[1:]) < 100 {
		t.Error("the test says little: ", said)
	}
	t.Log(said)
}

// TestPrefixes: P12.4: Run itself, of each beginning of a script.
func TestPrefixes(t *testing.T) {
	for seed := range 5 {
		d := die(900 + seed)
		l := d.script(t, 60)
		w := newWatch(t)
		for _, a := range l {
			w.do([]api.Act{a})
			w.run()
		}
	}
}
