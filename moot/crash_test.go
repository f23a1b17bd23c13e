package moot

import (
	"fmt"
	"slices"
	"testing"

	"conclave/api"
)

// proposed: a script behind which the node 0 has asked the others, whose letters are on their way to 1, 2, 3 and 4, to vote for a command.
func proposed(t *testing.T, c api.Command) []api.Act {
	t.Helper()
	l := join(submits(t, c, 0), acts(t, "lead 0"), fair(2), acts(t, "step 0"))
	if o := ran(t, l); o.Flying != 4 || len(o.Told) != 0 {
		t.Fatalf("%v", o)
	}
	return l
}

// TestKeep: P12.5: of what was not synced as many bytes as Keep stay, so that a vote of 38 bytes is there if all of it is, and cut off if it is torn.
func TestKeep(t *testing.T) {
	c, other := put(1, 0, 2, 77), put(2, 0, 3, 88)
	for _, keep := range []int{0, 1, 2, 13, 14, 33, 34, 36, 37, 38, 39, 60, 1000, api.MaxBytes} {
		// the node 1 has voted, but not synced it, and nobody but the node 0, which is gone, knows of the command
		w := watched(t, join(proposed(t, c), acts(t, fmt.Sprint("carry 0; lose 0; lose 0; lose 0; crash 0 0; crash 1 ", keep, "; start 1"))))
		w.do(join(submits(t, other, 3), acts(t, "lead 2"), fair(20)))
		want := []api.Command{other}
		if keep >= 38 {
			want = []api.Command{c, other}
		}
		wantLogs(t, fmt.Sprint("keep ", keep), w.now, nil, want, want, want, want)
		w.settle(1, 1, 2, 3, 4)
	}
}

// TestWrittenBehindATear: P12.5: what a node votes behind a start from a torn tape outlasts the next crash: the tape was repaired.
func TestWrittenBehindATear(t *testing.T) {
	c, other := put(1, 0, 2, 77), put(2, 0, 3, 88)
	for _, keep := range []int{0, 1, 20, 37} {
		// the vote of the node 1 is torn; then 1, 2 and 3 agree on another command
		w := watched(t, join(proposed(t, c), acts(t, fmt.Sprint("carry 0; lose 0; lose 0; lose 0; crash 0 0; crash 4 0; crash 1 ", keep, "; start 1"))))
		w.do(join(submits(t, other, 3), acts(t, "lead 2"), fair(20)))
		want := []api.Command{other}
		wantLogs(t, fmt.Sprint("keep ", keep), w.now, nil, want, want, want, nil)
		// of these the node 1 alone, which has forgotten what it did, is up, with the one that proposed the first command
		w.do(acts(t, "crash 1 0; crash 2 0; crash 3 0; start 1; start 0; start 4"))
		w.settle(0, 0, 1, 4)
		wantLogs(t, fmt.Sprint("keep ", keep, ", and another crash"), w.now, want, want, nil, nil, want)
	}
}

// TestKeepOfTwo: P12.5: two records that were not synced, a promise of 14 bytes and a vote: what stays is whole records from the first on.
func TestKeepOfTwo(t *testing.T) {
	c := put(1, 0, 2, 77)
	for _, keep := range []int{0, 13, 14, 15, 37, 38, 51, 52, 53} {
		// the node 1 was down while others promised; then the letters of the round, and of the vote in it, come
		l := join(submits(t, c, 0), acts(t, "lead 0; step 0; carry 1; carry 1; carry 1; step 2; step 3; step 4; carry 1; carry 1; carry 1; step 0; carry 0; carry 0"))
		w := watched(t, join(l, acts(t, fmt.Sprint("lose 0; lose 0; lose 0; crash 0 0; crash 1 ", keep, "; start 1; all"))))
		if w.now.Flying != 0 {
			t.Fatalf("%d letters", w.now.Flying)
		}
		w.do(join(acts(t, "lead 2"), fair(20)))
		var want []api.Command
		if keep >= 52 {
			want = []api.Command{c}
		}
		wantLogs(t, fmt.Sprint("keep ", keep), w.now, nil, want, want, want, want)
	}
}

// TestVotesOutlastCrashes: P12.5, P12.6: what was agreed on, of which nobody is up who has done it, stays agreed on, since the votes were synced ahead of being told.
func TestVotesOutlastCrashes(t *testing.T) {
	c, other := put(1, 0, 2, 77), put(2, 0, 3, 88)
	for _, voters := range [][2]int{{1, 2}, {1, 4}, {3, 4}} {
		begin := proposed(t, c)
		var l []api.Act
		for place, lost := 0, 0; place < 4; place++ {
			if n := place + 1; n == voters[0] || n == voters[1] {
				l = append(l, acts(t, fmt.Sprint("carry ", place-lost, "; step ", n))...)
			} else {
				l = append(l, acts(t, fmt.Sprint("lose ", place-lost))...)
			}
			lost++
		}
		w := watched(t, join(begin, l, acts(t, "all; step 0")))
		wantTold(t, "agreed", w.now, answer(0, c, 0, 77))
		w.do(acts(t, fmt.Sprint("crash 0 0; all; crash ", voters[0], " 0; crash ", voters[1], " 0; start ", voters[0], "; start ", voters[1])))
		for n := range api.MaxNodes {
			if len(w.now.Logs[n]) != 0 {
				w.do(acts(t, fmt.Sprint("crash ", n, " 0; start ", n)))
			}
		}
		leader := voters[0]%4 + 1
		w.do(join(submits(t, other, leader), acts(t, fmt.Sprint("lead ", leader)), fair(20)))
		want := []api.Command{c, other}
		wantLogs(t, fmt.Sprint(voters), w.now, nil, want, want, want, want)
	}
}

// TestARoundIsNotBegunAgain: P12.5, P12.6: a node that has led, crashed with nothing kept and lost all its letters begins a greater round then: with the same one it would have another command agreed on in the same slot.
func TestARoundIsNotBegunAgain(t *testing.T) {
	c, other := put(1, 0, 2, 77), put(2, 0, 3, 88)
	// 0, 1 and 2 have voted for the command, and the node 0 has done it
	w := watched(t, join(proposed(t, c), acts(t, "carry 0; carry 0; lose 0; lose 0; step 1; step 2; all; step 0")))
	wantTold(t, "done", w.now, answer(0, c, 0, 77))
	for w.now.Flying > 0 {
		w.do(acts(t, "lose 0"))
	}
	// the letters to 1 and 2 are lost
	w.do(join(acts(t, "crash 0 0; start 0; step 0; lose 0; lose 0; lose 0; lose 0"), submits(t, other, 0), acts(t, "lead 0; step 0; lose 0; lose 0; all")))
	w.do(acts(t, "step 3; step 4; all; step 0; lose 0; lose 0; all; step 3; step 4; all; step 0"))
	if !slices.Equal(w.now.Logs[0], []api.Command{c}) {
		t.Errorf("the node 0 has done %v", w.now.Logs[0])
	}
	w.settle(3, upOf(31)...)
	if !slices.Equal(w.agreed, []api.Command{c, other}) {
		t.Errorf("done is %v", w.agreed)
	}
}

// TestAllCrash: P12.5, P12.6, P12.8: all nodes crash at each place of a script, with nothing kept, and start again: what was done stays done.
func TestAllCrash(t *testing.T) {
	l := join(submits(t, put(1, 0, 2, 77), 0), submits(t, put(2, 0, 3, 88), 3), submits(t, get(1, 1, 3), 4), acts(t, "lead 0"), fair(12))
	crash := acts(t, "crash 0 0; crash 1 0; crash 2 0; crash 3 0; crash 4 0; start 0; start 1; start 2; start 3; start 4")
	full := 0
	for place := range len(l) + 1 {
		w := watched(t, join(l[:place], crash, submits(t, get(3, 0, 2), 1)))
		before := slices.Clone(w.agreed)
		w.settle(place%5, upOf(31)...)
		if !slices.Equal(w.agreed[:len(before)], before) || !slices.Contains(w.agreed, get(3, 0, 2)) {
			t.Errorf("a crash at %d: done was %v, is %v", place, before, w.agreed)
		}
		if len(before) == 3 {
			full++
		}
	}
	if full == 0 {
		t.Error("the script ends too early")
	}
}

// TestLearnsAnew: P12.5: a node that starts again has done nothing, and learns what was agreed on; so does one that was down all the time.
func TestLearnsAnew(t *testing.T) {
	var l []api.Act
	var want []api.Command
	for i := range 6 {
		c := put(1, i, 2, i)
		want = append(want, c)
		l = append(l, submits(t, c, 0)...)
	}
	begin := join(acts(t, "crash 4 0"), l, acts(t, "lead 0"), fair(30))
	w := watched(t, begin)
	wantLogs(t, "4 is down", w.now, want, want, want, want, nil)
	w.do(acts(t, "crash 2 0; start 2; start 4"))
	wantLogs(t, "2 and 4 are up again", w.now, want, want, nil, want, nil)
	w.do(fair(4))
	wantAll(t, "they have learned", w.now, want...)
	w.do(acts(t, "crash 0 0; start 0; lead 0"))
	w.do(fair(10))
	wantAll(t, "the one that leads has learned", w.now, want...)
	if len(w.now.Told) != 6 {
		t.Errorf("told %v", w.now.Told)
	}
	// none of those that have done it is up
	w.do(acts(t, "crash 0 0; crash 1 0; crash 2 0; crash 3 0; crash 4 0; start 4; start 2; start 1"))
	w.settle(4, 1, 2, 4)
	wantLogs(t, "three that have forgotten all", w.now, nil, want, want, nil, want)
}

// TestMissedNews: P12.5: a node that letters about some slots did not come to asks for these when it is told of later ones.
func TestMissedNews(t *testing.T) {
	var want []api.Command
	w := watched(t, join(acts(t, "lead 0"), fair(3)))
	for i := range 3 {
		c := put(1, i, 2, i)
		want = append(want, c)
		w.do(submits(t, c, 0))
		for range 6 { // a fair round, but that what goes to the node 4, which is sent last each time, is lost
			w.do(acts(t, "step 0"))
			if w.now.Flying == 4 {
				w.do(acts(t, "lose 3"))
			}
			if w.now.Flying == 8 {
				w.do(acts(t, "lose 7; lose 3"))
			}
			w.do(acts(t, "step 1; step 2; step 3; all"))
		}
	}
	wantLogs(t, "4 was told nothing", w.now, want, want, want, want, nil)
	last := put(1, 3, 2, 9)
	want = append(want, last)
	w.do(join(submits(t, last, 0), fair(8)))
	wantAll(t, "4 has asked", w.now, want...)
}
