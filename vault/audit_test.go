package vault_test

import (
	"bytes"
	"fmt"
	"math"
	"slices"
	"testing"

	"conclave/api"
	"conclave/vault"
)

// wantAudit: the place that is told of a chain.
func wantAudit(t *testing.T, what string, l []api.Entry, want int) {
	t.Helper()
	if got, e := vault.Audit(l); e != api.OK || got != want {
		t.Errorf("Audit of %s: %d, %d, want %d", what, got, int(e), want)
	}
}

// copied: a chain in new memory.
func copied(l []api.Entry) []api.Entry {
	l = slices.Clone(l)
	for i := range l {
		l[i].Sum = bytes.Clone(l[i].Sum)
	}
	return l
}

// numbers of an entry by their names: pointed at.
func numbers(x *api.Entry) map[string]*int {
	return map[string]*int{
		"Kind": &x.What.Kind, "Client": &x.What.Client, "Seq": &x.What.Seq, "Name": &x.What.Name, "Value": &x.What.Value,
		"Code": (*int)(&x.Answer.Code), "the answer's Value": &x.Answer.Value,
	}
}

// wrongs of an entry: in each number, and in Sum.
func wrongs(right api.Entry) map[string]api.Entry {
	all := map[string]api.Entry{}
	for name := range numbers(&right) {
		for _, by := range []int{1, -1, 2, 8, 256, 1 << 20, 1 << 31, 1 << 32, 1 << 40, -1 << 32, math.MinInt} {
			x := right
			*numbers(&x)[name] += by
			all[fmt.Sprint(name, " by ", by)] = x
		}
	}
	for bit := range 256 {
		x := right
		x.Sum = bytes.Clone(right.Sum)
		x.Sum[bit/8] ^= 1 << (bit % 8)
		all[fmt.Sprint("the Sum's bit ", bit)] = x
	}
	for name, sum := range map[string][]byte{
		"nil": nil, "none": {}, "noughts": make([]byte, 32), "its first byte": right.Sum[:1], "31 bytes": right.Sum[:31], "without the first": right.Sum[1:],
		"33 bytes": append(bytes.Clone(right.Sum), 0), "a nought ahead": append([]byte{0}, right.Sum...), "twice": append(bytes.Clone(right.Sum), right.Sum...),
		"2000 bytes": append(bytes.Clone(right.Sum), make([]byte, 1968)...), "2001 bytes": append(bytes.Clone(right.Sum), make([]byte, 1969)...),
	} {
		x := right
		x.Sum = sum
		all["a Sum: "+name] = x
	}
	return all
}

// TestAuditOfExamples: P10.4: the story that is told, and each piece of it from its beginning on (it was cut short), are right.
func TestAuditOfExamples(t *testing.T) {
	for n := range len(told) + 1 {
		wantAudit(t, fmt.Sprint("the first ", n), toldChain()[:n], -1)
	}
	wantAudit(t, "nil", nil, -1)
	wantAudit(t, "none", []api.Entry{}, -1)
	wantAudit(t, "an entry of nothing", make([]api.Entry, 1), 0)
}

// TestAuditOfSizes: P10.4: MaxLog entries, and one below; more are refused, right or not.
func TestAuditOfSizes(t *testing.T) {
	for _, n := range []int{1, 199, 200} {
		wantAudit(t, fmt.Sprint(n, " puts"), manyChained(n), -1)
		for _, place := range []int{0, n / 2, n - 1} {
			l := manyChained(n)
			l[place].Answer.Value++
			wantAudit(t, fmt.Sprint(n, " puts, wrong at ", place), l, place)
		}
	}
	for _, n := range []int{201, 202, 400, 5000} {
		wrong := manyChained(n)
		wrong[7].Answer.Value++
		for _, l := range [][]api.Entry{manyChained(n), wrong, make([]api.Entry, n)} {
			if got, e := vault.Audit(l); e != api.ErrSize || got != 0 {
				t.Errorf("Audit of %d entries: %d, %d, want 0, %d", n, got, int(e), int(api.ErrSize))
			}
		}
	}
}

// TestAuditOfWrongs: P10.4: an entry that is wrong in one field, at each place, the first and the last one too.
func TestAuditOfWrongs(t *testing.T) {
	for place, right := range toldChain() {
		for what, x := range wrongs(right) {
			l := toldChain()
			l[place] = x
			wantAudit(t, fmt.Sprint(what, ", at ", place), l, place)
			wantAudit(t, fmt.Sprint(what, ", at the end, ", place), l[:place+1], place)
		}
	}
}

// TestAuditOfTwoWrongs: P10.4: the first one is told.
func TestAuditOfTwoWrongs(t *testing.T) {
	right := toldChain()
	for first := range right {
		for second := first + 1; second < len(right); second++ {
			for _, field := range []string{"Value", "Seq", "Code", "the answer's Value"} {
				l := copied(right)
				*numbers(&l[first])[field]++
				*numbers(&l[second])[field]++
				wantAudit(t, fmt.Sprint(field, " at ", first, " and ", second), l, first)
			}
			l := copied(right)
			l[first].Sum, l[second].Sum = nil, l[second].Sum[:31]
			wantAudit(t, fmt.Sprint("Sums at ", first, " and ", second), l, first)
		}
	}
}

// TestAuditOfForged: P10.4: a wrong answer with a Sum that is right for it, and all Sums behind it too.
func TestAuditOfForged(t *testing.T) {
	for place := range told {
		for _, wrong := range []api.Answer{{Code: api.ErrNone}, {Value: 5}, {Code: -1}, {Value: -1}, {Code: api.ErrOld, Value: 5}, {Value: told[place].answer.Value + 1<<32}} {
			var answers []api.Answer
			for _, x := range told {
				answers = append(answers, x.answer)
			}
			answers[place] = wrong
			wantAudit(t, fmt.Sprint(wrong, " forged at ", place), chained(toldCommands(), answers), place)
		}
	}
}

// TestAuditOfOtherCommands: P10.4: a command that is another one, though both have the same answer, is told by its Sum; chained anew it is right.
func TestAuditOfOtherCommands(t *testing.T) {
	one := []api.Command{get(1, 0, 2), get(1, 1, 2), get(1, 2, 2)}
	l := chained(one, make([]api.Answer, 3))
	wantAudit(t, "gets", l, -1)
	for place := range one {
		for _, c := range []api.Command{{}, get(1, place, 3), get(2, place, 2), put(1, place, 2, 0), revoke(1, place, 2)} {
			other := copied(l)
			other[place].What = c
			wantAudit(t, fmt.Sprint(c, " at ", place), other, place)
			anew := slices.Clone(one)
			anew[place] = c
			wantAudit(t, fmt.Sprint(c, " chained anew at ", place), chained(anew, make([]api.Answer, 3)), -1)
		}
	}
}

// TestAuditOfRefused: P10.4: an entry whose command is refused, with whatever Sum; with a wrong entry ahead of it, the first of them is told, and with one behind it, too.
func TestAuditOfRefused(t *testing.T) {
	n := len(told)
	for _, c := range wrongCommands() {
		for _, place := range []int{0, 1, n / 2, n - 1} {
			var answers []api.Answer
			for _, x := range told {
				answers = append(answers, x.answer)
			}
			commands := toldCommands()
			commands[place], answers[place] = c.what, api.Answer{}
			for what, right := range map[string][]api.Entry{"told": toldChain(), "chained": chained(commands, answers)} {
				right[place].What = c.what
				what := fmt.Sprint(c.what, " at ", place, ", ", what)
				wantAudit(t, what, right, place)
				if place > 0 {
					l := copied(right)
					l[place-1].Answer.Value++
					wantAudit(t, what+", a wrong one ahead", l, place-1)
					l = copied(right)
					l[0].Sum[31] ^= 1
					wantAudit(t, what+", the first one wrong", l, 0)
				}
				if place < n-1 {
					l := copied(right)
					l[place+1].Answer.Code++
					l[n-1].Sum = nil
					wantAudit(t, what+", wrong ones behind", l, place)
				}
			}
		}
	}
}

// TestAuditOfExchanged: P10.4: any two entries are exchanged, or one is left out, or stands twice.
func TestAuditOfExchanged(t *testing.T) {
	for what, right := range map[string][]api.Entry{"told": toldChain(), "Noops": chained(make([]api.Command, 20), make([]api.Answer, 20))} {
		for i := range right {
			for j := i + 1; j < len(right); j++ {
				l := copied(right)
				l[i], l[j] = l[j], l[i]
				wantAudit(t, fmt.Sprint(what, ": ", i, " and ", j, " exchanged"), l, i)
			}
			without := slices.Delete(copied(right), i, i+1)
			want := i
			if i == len(right)-1 {
				want = -1 // it is cut short, which a chain does not tell
			}
			wantAudit(t, fmt.Sprint(what, ": without ", i), without, want)
			wantAudit(t, fmt.Sprint(what, ": twice ", i), slices.Insert(copied(right), i, right[i]), i+1)
		}
		wantAudit(t, what+": without its beginning", right[5:], 0)
	}
}

// TestAuditOfSumsAhead: P10.4: a first entry that stands behind another Sum than noughts.
func TestAuditOfSumsAhead(t *testing.T) {
	for _, ahead := range [][]byte{nil, make([]byte, 31), make([]byte, 33), bytes.Repeat([]byte{255}, 32), toldChain()[3].Sum} {
		x := api.Entry{What: put(1, 0, 2, 77), Answer: value(77), Sum: summed(ahead, put(1, 0, 2, 77), value(77))}
		wantAudit(t, fmt.Sprint("an entry behind ", ahead), []api.Entry{x}, 0)
	}
}
