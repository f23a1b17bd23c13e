package vault_test

import (
	"bytes"
	"fmt"
	"slices"
	"testing"

	"conclave/api"
	"conclave/vault"
)

// scribble over a list and its spare room.
func scribble(b []byte) {
	b = b[:cap(b)]
	for i := range b {
		b[i] ^= 0xa5
	}
}

// scribbleAll over a chain, its Sums and the spare room of both.
func scribbleAll(l []api.Entry) {
	l = l[:cap(l)]
	for i := range l {
		scribble(l[i].Sum)
		l[i] = api.Entry{What: put(-7, -7, -7, -7), Answer: api.Answer{Code: -7, Value: -7}}
	}
}

// someCommands: lists that are chained, and ones that are refused.
func someCommands() map[string][]api.Command {
	wrong := many(9)
	wrong[5].Client = 8
	return map[string][]api.Command{
		"nil": nil, "none": {}, "one": many(1), "told": toldCommands(), "wrong": wrong, "all": many(200), "too many": many(201),
	}
}

// someChains: chains that are right, ones that are wrong, and ones that are refused.
func someChains() map[string][]api.Entry {
	wrong, refused, odd := toldChain(), toldChain(), toldChain()
	wrong[5].Answer.Code++
	refused[7].What.Kind = 9
	odd[3].Sum, odd[9].Sum = nil, odd[9].Sum[:7]
	return map[string][]api.Entry{
		"nil": nil, "none": {}, "one": manyChained(1), "told": toldChain(), "wrong": wrong, "refused": refused, "odd": odd, "all": manyChained(200), "too many": manyChained(201),
	}
}

// TestCommandsStay: P10.3: the commands that are handed in, with what is behind them, are not changed, and not kept; answers are new memory.
func TestCommandsStay(t *testing.T) {
	for what, l := range someCommands() {
		room := slices.Concat(l, many(30))
		before := slices.Clone(room)
		l = room[:len(l)]
		first, s, e := vault.Chain(l)
		if !slices.Equal(room, before) {
			t.Fatalf("%s: the commands that were handed in are changed", what)
		}
		second, again, f := vault.Chain(l)
		said := fmt.Sprint(second)
		if fmt.Sprint(first) != said || s != again || e != f {
			t.Fatalf("%s: %v, and then %v", what, first, second)
		}
		scribbleAll(first)
		if !slices.Equal(room, before) {
			t.Fatalf("%s: the answer shares memory with what was handed in", what)
		}
		for i := range room {
			room[i] = put(-7, -7, -7, -7)
		}
		if fmt.Sprint(second) != said {
			t.Errorf("%s: an answer hangs on another, or on what was handed in", what)
		}
	}
}

// TestSumsOfAChain: P10.3: no two Sums of one answer share memory, their spare room neither.
func TestSumsOfAChain(t *testing.T) {
	for place := range told {
		l, _, _ := vault.Chain(toldCommands())
		scribble(l[place].Sum)
		for i, x := range toldChain() {
			if i != place && !bytes.Equal(l[i].Sum, x.Sum) {
				t.Fatalf("the Sum at %d hangs on the one at %d", i, place)
			}
		}
	}
}

// TestChainsStay: P10.4: the entries that are handed in, their Sums, and what is behind these, are not changed, and not kept.
func TestChainsStay(t *testing.T) {
	for what, l := range someChains() {
		room := slices.Concat(l, toldChain())
		var sums []byte // of all entries, each with the others behind it as its spare room
		for _, x := range room {
			sums = append(sums, x.Sum...)
		}
		at := 0
		for i, x := range room {
			room[i].Sum = sums[at : at+len(x.Sum)]
			at += len(x.Sum)
		}
		before, said := bytes.Clone(sums), fmt.Sprint(room)
		place, e := vault.Audit(room[:len(l)])
		if !bytes.Equal(sums, before) || fmt.Sprint(room) != said {
			t.Fatalf("%s: a chain that was handed in is changed", what)
		}
		if again, f := vault.Audit(room[:len(l)]); place != again || e != f {
			t.Errorf("%s: %d, and then %d", what, place, again)
		}
		if first, f := vault.Audit(l); place != first || e != f {
			t.Errorf("%s: %d, without spare room %d", what, place, first)
		}
	}
}

// TestAuditOfItsOwn: P10.3, P10.4: a chain is as right as it was when it is audited, or scribbled over, in between.
func TestAuditOfItsOwn(t *testing.T) {
	l, _, _ := vault.Chain(toldCommands())
	wantAudit(t, "a chain", l, -1)
	wantAudit(t, "it once more", l, -1)
	other, _, _ := vault.Chain(toldCommands())
	scribbleAll(l)
	wantAudit(t, "another", other, -1)
	wantAudit(t, "what was scribbled over", l, 0)
}

// TestTwoFromOne: P10.2: a store that is handed in twice makes two that have nothing in common.
func TestTwoFromOne(t *testing.T) {
	s := full()
	one, _, e := vault.Do(s, put(1, 50, 2, 77))
	two, _, f := vault.Do(s, revoke(1, 50, 2))
	if e != api.OK || f != api.OK || s != full() {
		t.Fatalf("%d, %d, and %v", int(e), int(f), s)
	}
	if one.Values[2] != 77 || one.Revoked[2] || two.Values[2] != 1002 || !two.Revoked[2] {
		t.Errorf("%v and %v", one, two)
	}
}
