package moot

import (
	"fmt"
	"math"
	"slices"
	"testing"

	"conclave/api"
	"conclave/lines"
)

// wrongActs: acts that may not be, and why.
func wrongActs() []struct {
	act api.Act
	why api.Errno
} {
	return []struct {
		act api.Act
		why api.Errno
	}{
		{api.Act{}, api.ErrKind}, {api.Act{Kind: 10}, api.ErrKind}, {api.Act{Kind: -1, Node: -1}, api.ErrKind}, {api.Act{Kind: math.MaxInt}, api.ErrKind},
		{api.Act{Kind: api.Submit, Node: 5}, api.ErrRange}, {api.Act{Kind: api.Lead, Node: -1}, api.ErrRange}, {api.Act{Kind: api.Step, Node: 5}, api.ErrRange}, {api.Act{Kind: api.Start, Node: math.MinInt}, api.ErrRange},
		{api.Act{Kind: api.Carry, At: -1}, api.ErrRange}, {api.Act{Kind: api.Lose, At: api.MaxAt + 1}, api.ErrRange}, {api.Act{Kind: api.Double, At: math.MaxInt}, api.ErrRange},
		{api.Act{Kind: api.Crash, Keep: -1}, api.ErrRange}, {api.Act{Kind: api.Crash, Keep: api.MaxBytes + 1}, api.ErrRange}, {api.Act{Kind: api.Crash, Node: 5, Keep: 1}, api.ErrRange},
		{api.Act{Kind: api.Submit, Data: make([]byte, api.MaxData+1)}, api.ErrSize},
		{api.Act{Kind: api.All, Node: 1}, api.ErrForm}, {api.Act{Kind: api.Carry, Node: 5}, api.ErrForm}, {api.Act{Kind: api.Step, Data: []byte{1}}, api.ErrForm}, {api.Act{Kind: api.Lead, Keep: 1}, api.ErrForm}, {api.Act{Kind: api.Submit, At: 1}, api.ErrForm},
	}
}

// wantRefused: that Run refuses a script, and answers nothing else.
func wantRefused(t *testing.T, what string, l []api.Act, why api.Errno) {
	t.Helper()
	if o, e := Run(l); e != why || !same(o, api.Outcome{}) {
		t.Errorf("%s: %v, %d, want nothing, %d", what, o, int(e), int(why))
	}
}

// TestRunNothing: P12.4, P12.7: no acts.
func TestRunNothing(t *testing.T) {
	for _, l := range [][]api.Act{nil, {}} {
		o := ran(t, l)
		wantAll(t, "no acts", o)
		if o.Flying != 0 || o.Up != [api.MaxNodes]bool{true, true, true, true, true} || o.Bad != [api.MaxNodes]int{} || len(o.Told) != 0 {
			t.Error(o)
		}
	}
}

// TestRunRefuses: P12.4: a script whose first, middle or last act may not be, and one in which each other act may be.
func TestRunRefuses(t *testing.T) {
	good := join(submits(t, put(1, 0, 2, 77), 0, 1), acts(t, "lead 0"), fair(3), acts(t, "crash 2 7; carry 3; lose 4; double 5; start 2"), fair(3))
	ran(t, good)
	for _, x := range wrongActs() {
		if e := lines.Check(x.act); e != x.why {
			t.Errorf("%v: %d, want %d", x.act, int(e), int(x.why))
		}
		for _, place := range []int{0, 1, len(good) / 2, len(good) - 1, len(good)} {
			wantRefused(t, fmt.Sprint(x.act, " at ", place), slices.Insert(slices.Clone(good), place, x.act), x.why)
		}
		wantRefused(t, "alone", []api.Act{x.act}, x.why)
	}
}

// TestRunRefusesTheFirst: P12.4: of two acts that may not be the first one says why.
func TestRunRefusesTheFirst(t *testing.T) {
	good := join(acts(t, "lead 0"), fair(2))
	for _, x := range wrongActs() {
		for _, y := range wrongActs() {
			wantRefused(t, fmt.Sprint(x.act, " ahead of ", y.act), join([]api.Act{x.act}, good, []api.Act{y.act}), x.why)
			wantRefused(t, fmt.Sprint(x.act, " right ahead of ", y.act), join(good, []api.Act{x.act, y.act}), x.why)
		}
	}
}

// TestRunLengths: P12.4: MaxSteps acts, and one more, which is ErrSize whatever the acts are.
func TestRunLengths(t *testing.T) {
	l := join(submits(t, put(1, 0, 2, 77), 0), acts(t, "lead 0"), fair(api.MaxSteps/6+1))
	for _, n := range []int{api.MaxSteps - 1, api.MaxSteps} {
		o := ran(t, l[:n])
		wantAll(t, fmt.Sprint(n, " acts"), o, put(1, 0, 2, 77))
	}
	wantRefused(t, "one more", l[:api.MaxSteps+1], api.ErrSize)
	for _, place := range []int{0, api.MaxSteps / 2, api.MaxSteps} {
		wrong := slices.Clone(l[:api.MaxSteps+1])
		wrong[place] = api.Act{}
		wantRefused(t, fmt.Sprint("one more, and wrong at ", place), wrong, api.ErrSize)
	}
	wrong := slices.Clone(l[:api.MaxSteps])
	wrong[api.MaxSteps-1] = api.Act{Kind: api.All, At: 1}
	wantRefused(t, "the last one is wrong", wrong, api.ErrForm)
}
