package lines_test

import (
	"fmt"
	"math"
	"testing"

	"conclave/api"
	"conclave/lines"
)

// kinds of acts, with the numbers that their words have, told by hand.
var kinds = []struct {
	kind           int
	node, at, keep bool
}{
	{kind: 1, node: true},
	{kind: 2, node: true},
	{kind: 3, node: true},
	{kind: 4, at: true},
	{kind: 5, at: true},
	{kind: 6, at: true},
	{kind: 7},
	{kind: 8, node: true, keep: true},
	{kind: 9, node: true},
}

// noKinds: numbers that no kind has.
var noKinds = []int{0, 10, -1, 11, 12, 255, 256, 257, 1 << 16, 1<<32 + 1, 1<<32 + 7, -7, -9, math.MinInt32, math.MinInt, math.MinInt + 1, math.MaxInt}

// far: numbers that no number of an act may be, whether its word has it or not.
var far = []int{-1, -2, -4, -1048576, math.MinInt32, -1 << 32, math.MinInt, math.MinInt + 1, 1 << 21, 1 << 31, 1<<32 - 1, 1 << 32, 1<<32 + 1, math.MaxInt - 1, math.MaxInt}

// wrongAct: an act that may not be, and what it is refused with.
type wrongAct struct {
	act  api.Act
	want api.Errno
}

// wantCheck: this is what Check says of an act.
func wantCheck(t *testing.T, a api.Act, want api.Errno) {
	t.Helper()
	if e := lines.Check(a); e != want {
		t.Errorf("%s: %d, want %d", briefActs([]api.Act{a}), int(e), int(want))
	}
}

// wantOutside: what a number out of its bound is refused with, where a word has it, and where it does not.
func wantOutside(has bool) api.Errno {
	if has {
		return api.ErrRange
	}
	return api.ErrForm
}

// withNumber: an act of a kind with one number.
func withNumber(kind, field, n int) api.Act {
	a := api.Act{Kind: kind}
	*[]*int{&a.Node, &a.At, &a.Keep}[field] = n
	return a
}

// wrongActs: by their kind, by each number, by their Data, and by what their word does not have.
func wrongActs() []wrongAct {
	var l []wrongAct
	for _, kind := range noKinds {
		l = append(l, wrongAct{api.Act{Kind: kind}, api.ErrKind})
	}
	for _, k := range kinds {
		for field, has := range []bool{k.node, k.at, k.keep} {
			most := []int{4, 1048576, 100000}[field]
			for _, n := range append([]int{most + 1, most + 2}, far...) {
				l = append(l, wrongAct{withNumber(k.kind, field, n), wantOutside(has)})
			}
			if !has {
				l = append(l, wrongAct{withNumber(k.kind, field, 1), api.ErrForm}, wrongAct{withNumber(k.kind, field, most), api.ErrForm})
			}
		}
		l = append(l, wrongAct{api.Act{Kind: k.kind, Data: pattern(2001, 1)}, api.ErrSize})
		if k.kind != api.Submit {
			l = append(l, wrongAct{api.Act{Kind: k.kind, Data: []byte{0}}, api.ErrForm}, wrongAct{api.Act{Kind: k.kind, Data: pattern(2000, 1)}, api.ErrForm})
		}
	}
	return l
}

// TestCheckOfNumbers: P11.1: each number of each kind at its bounds and beside them; with one that its word does not have.
func TestCheckOfNumbers(t *testing.T) {
	for _, k := range kinds {
		for field, has := range []bool{k.node, k.at, k.keep} {
			most := []int{4, 1048576, 100000}[field]
			for _, n := range []int{-1, 0, 1, 2, 3, 4, 5, 9, 10, most - 1, most, most + 1} {
				want := api.OK
				if n != 0 && !has {
					want = api.ErrForm
				} else if n < 0 || n > most {
					want = api.ErrRange
				}
				wantCheck(t, withNumber(k.kind, field, n), want)
			}
		}
	}
}

// TestCheckOfData: P11.1: a Submit has up to MaxData bytes of Data; no other kind has any.
func TestCheckOfData(t *testing.T) {
	for _, k := range kinds {
		wantCheck(t, api.Act{Kind: k.kind}, api.OK)
		wantCheck(t, api.Act{Kind: k.kind, Data: []byte{}}, api.OK)
		wantCheck(t, api.Act{Kind: k.kind, Data: pattern(2000, 1)[:0]}, api.OK)
		for _, n := range []int{1, 2, 1999, 2000} {
			want := api.OK
			if k.kind != api.Submit {
				want = api.ErrForm
			}
			wantCheck(t, api.Act{Kind: k.kind, Data: pattern(n, n)}, want)
			wantCheck(t, api.Act{Kind: k.kind, Data: make([]byte, n)}, want)
		}
		for _, n := range []int{2001, 2002, 4000, 65536, 1 << 20} {
			wantCheck(t, api.Act{Kind: k.kind, Data: make([]byte, n)}, api.ErrSize)
		}
	}
}

// TestCheckOfLimits: P11.1: all that a word has at its bound at once.
func TestCheckOfLimits(t *testing.T) {
	for _, a := range []api.Act{
		submit(4, pattern(2000, 3)...), atNode(api.Lead, 4), atNode(api.Step, 4), atNode(api.Start, 4),
		atPlace(api.Carry, 1<<20), atPlace(api.Lose, 1<<20), atPlace(api.Double, 1<<20), all(), crash(4, 100000),
	} {
		wantCheck(t, a, api.OK)
	}
}

// TestCheckRefuses: P11.1: acts that may not be, by one thing.
func TestCheckRefuses(t *testing.T) {
	for _, x := range wrongActs() {
		wantCheck(t, x.act, x.want)
	}
}

// faults of an act, each of one part of it, so that those of several parts may stand together. Whether a number is one hangs on the word.
var faults = []func(a *api.Act){
	func(a *api.Act) { a.Kind = 10 },
	func(a *api.Act) { a.Kind = 0 },
	func(a *api.Act) { a.Node = -1 },
	func(a *api.Act) { a.Node = 5 },
	func(a *api.Act) { a.Node = 1 },
	func(a *api.Act) { a.At = -1 },
	func(a *api.Act) { a.At = 1048577 },
	func(a *api.Act) { a.At = 1 },
	func(a *api.Act) { a.Keep = -1 },
	func(a *api.Act) { a.Keep = 100001 },
	func(a *api.Act) { a.Keep = 1 },
	func(a *api.Act) { a.Data = make([]byte, 2001) },
	func(a *api.Act) { a.Data = []byte{1} },
}

// TestTwoFaults: P11.1: where two or three are wrong at once, the answer is the one named first: the kind, a number that the word has beyond its bounds, too many bytes, what the word does not have.
func TestTwoFaults(t *testing.T) {
	for _, k := range kinds {
		for _, first := range faults {
			for _, second := range faults {
				for _, third := range faults {
					a := api.Act{Kind: k.kind}
					third(&a)
					second(&a)
					first(&a)
					wantCheck(t, a, mayBe(a))
				}
			}
		}
	}
}

// twice: acts that are wrong in more than one way, with a number that their word does not have out of bounds, told by hand.
var twice = []wrongAct{
	{api.Act{Kind: 0, Node: -1}, api.ErrKind},
	{api.Act{Kind: 10, Keep: 100001, Data: make([]byte, 2001)}, api.ErrKind},
	{api.Act{Kind: api.Carry, Node: -1, At: -1}, api.ErrRange},
	{api.Act{Kind: api.Lose, At: 1048577, Keep: 1}, api.ErrRange},
	{api.Act{Kind: api.Crash, At: -1, Keep: 100001}, api.ErrRange},
	{api.Act{Kind: api.Crash, Node: 5, At: 1048577}, api.ErrRange},
	{api.Act{Kind: api.Step, Node: -1, Keep: -1, Data: make([]byte, 2001)}, api.ErrRange},
	{api.Act{Kind: api.All, Node: 5, Data: make([]byte, 2001)}, api.ErrSize},
	{api.Act{Kind: api.Submit, Keep: -1, Data: make([]byte, 2001)}, api.ErrSize},
	{api.Act{Kind: api.Double, Node: math.MinInt, Data: make([]byte, 2001)}, api.ErrSize},
	{api.Act{Kind: api.All, Node: 5, At: -1, Keep: -1}, api.ErrForm},
	{api.Act{Kind: api.Start, Node: 4, At: math.MinInt, Keep: math.MaxInt}, api.ErrForm},
	{api.Act{Kind: api.Submit, At: 1048577, Data: []byte{1}}, api.ErrForm},
	{api.Act{Kind: api.Lead, Keep: 100001, Data: []byte{1}}, api.ErrForm},
}

// TestNumberWithoutAWord: P11.1, P11.3: a number that the word does not have has no bound; where it is not 0, it is named last. Show says the same.
func TestNumberWithoutAWord(t *testing.T) {
	for _, x := range twice {
		wantCheck(t, x.act, x.want)
		wantNoShow(t, briefActs([]api.Act{x.act}), []api.Act{all(), x.act}, 1, x.want)
	}
}

// TestEveryKind: P11.1: nine kinds, and no more.
func TestEveryKind(t *testing.T) {
	for kind := -300; kind <= 300; kind++ {
		want := api.ErrKind
		if kind >= 1 && kind <= 9 {
			want = api.OK
		}
		wantCheck(t, api.Act{Kind: kind}, want)
	}
}

// mayBe: may an act be? Worked out apart from the program, by its kind.
func mayBe(a api.Act) api.Errno {
	outside, bare := false, a
	switch a.Kind {
	case api.Submit, api.Lead, api.Step, api.Start:
		outside = a.Node < 0 || a.Node > 4
		bare.Node = 0
	case api.Carry, api.Lose, api.Double:
		outside = a.At < 0 || a.At > 1048576
		bare.At = 0
	case api.All:
	case api.Crash:
		outside = a.Node < 0 || a.Node > 4 || a.Keep < 0 || a.Keep > 100000
		bare.Node, bare.Keep = 0, 0
	default:
		return api.ErrKind
	}
	if outside {
		return api.ErrRange
	}
	if len(a.Data) > 2000 {
		return api.ErrSize
	}
	if a.Kind == api.Submit {
		bare.Data = nil
	}
	if !same(bare, api.Act{Kind: a.Kind}) {
		return api.ErrForm
	}
	return api.OK
}

// oddAct: a drawn act, which mostly may not be.
func (d *die) oddAct() api.Act {
	number := func(most int) int {
		return []int{0, 0, 0, 0, 1, most, most, most + 1, -1, d.upTo(most)}[d.upTo(9)]
	}
	a := api.Act{Kind: d.upTo(10), Node: number(4), At: number(1048576), Keep: number(100000)}
	if d.upTo(3) == 0 {
		a.Data = pattern([]int{0, 1, 2, 5, 1999, 2000, 2001}[d.upTo(6)], d.upTo(99))
	}
	return a
}

// TestDrawnActs: P11.1: any acts, held against what is worked out apart from the program.
func TestDrawnActs(t *testing.T) {
	d := die(11)
	met := map[string]int{}
	for range 50000 {
		a := d.oddAct()
		want := mayBe(a)
		met[fmt.Sprint(a.Kind, int(want))]++
		wantCheck(t, a, want)
	}
	for kind := 1; kind <= 9; kind++ {
		for _, e := range []api.Errno{api.OK, api.ErrRange, api.ErrSize, api.ErrForm} {
			if kind == api.All && e == api.ErrRange {
				continue // its word has no numbers
			}
			if met[fmt.Sprint(kind, int(e))] == 0 {
				t.Errorf("no act of kind %d with %d was drawn", kind, int(e))
			}
		}
	}
}
