package moot

import (
	"bytes"
	"fmt"
	"slices"
	"testing"

	"conclave/api"
)

// scribble over bytes and their spare room.
func scribble(b []byte) {
	b = b[:cap(b)]
	for i := range b {
		b[i] ^= 0xa5
	}
}

// scribbleCommands over commands and their spare room.
func scribbleCommands(l []api.Command) {
	l = l[:cap(l)]
	for i := range l {
		l[i] = put(-7, -7, -7, -7)
	}
}

// scribbleOutcome over all lists of an outcome, and their spare room.
func scribbleOutcome(o api.Outcome) {
	logs := o.Logs[:cap(o.Logs)]
	for i := range logs {
		scribbleCommands(logs[i])
		logs[i] = []api.Command{put(-7, -7, -7, -7)}
	}
	told := o.Told[:cap(o.Told)]
	for i := range told {
		told[i] = api.Told{Node: -7}
	}
}

// someScripts: scripts that are run, and ones that are refused.
func someScripts(t *testing.T) map[string][]api.Act {
	t.Helper()
	l := map[string][]api.Act{"nil": nil, "none": {}}
	for seed := range 8 {
		d := die(30000 + seed)
		l[fmt.Sprint("drawn ", seed)] = join(d.script(t, 80), acts(t, "start 0; start 1; lead 1"), fair(10))
	}
	good := join(submits(t, put(1, 0, 2, 77), 0, 1, 4), submits(t, get(2, 0, 2), 3), acts(t, "submit 2 010203; lead 0"), fair(20), submits(t, put(1, 0, 2, 77), 2))
	l["good"] = good
	l["wrong"] = append(slices.Clone(good), api.Act{Kind: api.Submit, At: 1, Data: []byte{1, 2, 3}})
	l["too many"] = slices.Repeat(good, api.MaxSteps/len(good)+1)
	return l
}

// withRoom: acts with others behind them as spare room, and all Data in one list of bytes, each with the others behind it as its spare room.
func withRoom(t *testing.T, l []api.Act) ([]api.Act, []byte) {
	t.Helper()
	room := join(l, submits(t, get(5, 0, 5), 0, 1, 2), acts(t, "all; crash 0 0"))
	var all []byte
	for _, a := range room {
		all = append(all, a.Data...)
	}
	at := 0
	for i, a := range room {
		room[i].Data = all[at : at+len(a.Data)]
		at += len(a.Data)
	}
	return room, all
}

// TestScriptsStay: P12.4: the acts that are handed in, their Data, and what is behind these, are not changed and not kept; outcomes are new memory.
func TestScriptsStay(t *testing.T) {
	for what, l := range someScripts(t) {
		room, all := withRoom(t, l)
		before, saved := slices.Clone(room), bytes.Clone(all)
		stays := func() {
			t.Helper()
			if !bytes.Equal(all, saved) || !slices.EqualFunc(room, before, func(x, y api.Act) bool { return fmt.Sprint(x) == fmt.Sprint(y) }) {
				t.Fatalf("%s: what was handed in is changed", what)
			}
		}
		first, e := Run(room[:len(l)])
		stays()
		second, f := Run(room[:len(l)])
		third, g := Run(l)
		if !same(first, second) || !same(first, third) || e != f || e != g {
			t.Fatalf("%s: %v, then %v, without spare room %v", what, first, second, third)
		}
		scribbleOutcome(first)
		stays()
		for i := range room {
			room[i] = api.Act{Kind: -7}
		}
		scribble(all)
		if !same(second, third) {
			t.Errorf("%s: an outcome hangs on another, or on what was handed in", what)
		}
	}
}

// TestListsOfOneOutcome: P12.7: no two lists of one outcome share memory, their spare room neither.
func TestListsOfOneOutcome(t *testing.T) {
	for what, l := range someScripts(t) {
		want, e := Run(l)
		if e != api.OK {
			continue
		}
		for n := range api.MaxNodes {
			o := ran(t, l)
			scribbleCommands(o.Logs[n])
			o.Logs[n] = want.Logs[n]
			if !same(o, want) {
				t.Fatalf("%s: the others hang on the log of the node %d", what, n)
			}
			for i := range o.Logs {
				o.Logs[i] = append(o.Logs[i], put(i, i, i, i))
			}
			for i, log := range o.Logs {
				if log[len(log)-1] != put(i, i, i, i) {
					t.Fatalf("%s: what is put behind a log is seen in others", what)
				}
			}
		}
	}
}

// TestBytesStay: P12.1 to P12.3: what is handed in to Open is not changed, its spare room neither; keys and what is packed are new memory each time.
func TestBytesStay(t *testing.T) {
	c := put(1, 0, 2, 77)
	good := packed(t, c)
	for _, b := range [][]byte{good, good[:62], append(bytes.Clone(good), 1), good[:1], nil, {8, 1, 2}} {
		room := append(bytes.Clone(b), 1, 2, 3, 4, 5, 6, 7, 8, 9)
		saved := bytes.Clone(room)
		got, e := Open(room[:len(b)], 0)
		again, f := Open(b, 0)
		if !bytes.Equal(room, saved) || got != again || e != f {
			t.Errorf("%x became %x; %v, %d, then %v, %d", saved, room, got, int(e), again, int(f))
		}
	}
	for what, call := range map[string]func() []byte{
		"Issuer": Issuer,
		"Key":    func() []byte { b, _ := Key(3); return b },
		"Pack":   func() []byte { b, _ := Pack(0, may(1), c); return b },
	} {
		first, second := call(), call()
		want := bytes.Clone(second)
		scribble(first)
		if !bytes.Equal(second, want) || !bytes.Equal(call(), want) {
			t.Errorf("%s: an answer hangs on another", what)
		}
	}
}

// TestNothingIsKept: P12.4: a script that was run, or refused, leaves nothing behind.
func TestNothingIsKept(t *testing.T) {
	scripts := someScripts(t)
	want := ran(t, scripts["good"])
	for what, l := range scripts {
		Run(l)
		if o := ran(t, scripts["good"]); !same(o, want) {
			t.Errorf("behind %s: %v, want %v", what, o, want)
		}
	}
}
