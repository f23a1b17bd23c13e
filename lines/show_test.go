package lines_test

import (
	"fmt"
	"slices"
	"strings"
	"testing"

	"conclave/api"
)

// TestShowRefuses: P11.3: each act that may not be, at the first place, in the midst and at the last, is refused as Check says, with its place.
func TestShowRefuses(t *testing.T) {
	for _, x := range wrongActs() {
		what := briefActs([]api.Act{x.act})
		wantNoShow(t, what+" alone", []api.Act{x.act}, 0, x.want)
		for _, place := range []int{0, 1, 7, 37, 38} {
			l, _ := toldActs()
			l[place] = x.act
			wantNoShow(t, fmt.Sprint(what, " at ", place), l, place, x.want)
		}
	}
}

// TestShowRefusesTheFirst: P11.3: of two acts that may not be the first is refused, whatever the errors are.
func TestShowRefusesTheFirst(t *testing.T) {
	some := []wrongAct{
		{api.Act{}, api.ErrKind},
		{api.Act{Kind: 10}, api.ErrKind},
		{atNode(api.Step, 5), api.ErrRange},
		{atPlace(api.Carry, -1), api.ErrRange},
		{crash(0, 100001), api.ErrRange},
		{submit(0, pattern(2001, 5)...), api.ErrSize},
		{api.Act{Kind: api.All, At: 1}, api.ErrForm},
		{api.Act{Kind: api.Submit, Keep: -1}, api.ErrForm},
		{api.Act{Kind: api.Lead, Data: []byte{1}}, api.ErrForm},
	}
	for _, x := range some {
		for _, y := range some {
			l, _ := toldActs()
			l[12], l[20] = x.act, y.act
			wantNoShow(t, fmt.Sprint("two: ", int(x.want), int(y.want)), l, 12, x.want)
			wantNoShow(t, "side by side", []api.Act{x.act, y.act}, 0, x.want)
			wantNoShow(t, "at the end", []api.Act{all(), x.act, y.act}, 1, x.want)
		}
	}
}

// TestShowOfTooMany: P11.3: more than MaxSteps acts, with the place 0, even where some of them may not be.
func TestShowOfTooMany(t *testing.T) {
	for _, n := range []int{100001, 100002, 150000} {
		wantNoShow(t, fmt.Sprint(n, " acts"), allActs(n), 0, api.ErrSize)
		for _, place := range []int{0, 5, 99999, 100000, n - 1} {
			l := allActs(n)
			l[place] = atNode(api.Step, 5)
			wantNoShow(t, fmt.Sprint(n, " acts, a wrong one at ", place), l, 0, api.ErrSize)
		}
	}
	wantNoShow(t, "acts of no kind", make([]api.Act, 100001), 0, api.ErrSize)
}

// TestShowOfMostRefuses: P11.3: MaxSteps acts of which one may not be.
func TestShowOfMostRefuses(t *testing.T) {
	for _, place := range []int{0, 50000, 99998, 99999} {
		l := allActs(100000)
		l[place].Keep = 1
		wantNoShow(t, fmt.Sprint("a wrong one at ", place), l, place, api.ErrForm)
	}
}

// TestShowOfMuch: P11.3: a text may be longer than one that is read.
func TestShowOfMuch(t *testing.T) {
	a := submit(4, pattern(2000, 9)...)
	text := strings.Repeat(fmt.Sprintf("submit 4 %x\n", a.Data), 5000)
	wantShow(t, "much Data", slices.Repeat([]api.Act{a}, 5000), text)
	wantNoRead(t, "much Data", text, 0, api.ErrSize)
}
