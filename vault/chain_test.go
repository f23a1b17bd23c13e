package vault_test

import (
	"bytes"
	"fmt"
	"testing"

	"conclave/api"
	"conclave/sha"
	"conclave/vault"
)

// four: numbers as four bytes each, the highest one first.
func four(numbers ...int) []byte {
	var b []byte
	for _, n := range numbers {
		for shift := 24; shift >= 0; shift -= 8 {
			b = append(b, byte(n>>shift))
		}
	}
	return b
}

// summed: the Sum of an entry behind another Sum, whether the entry may be or not.
func summed(ahead []byte, c api.Command, a api.Answer) []byte {
	b := bytes.Join([][]byte{ahead, four(c.Kind, c.Client, c.Seq, c.Name, c.Value), four(int(a.Code), a.Value)}, nil)
	sum, e := sha.Sum(b)
	if e != api.OK {
		panic(e)
	}
	return sum
}

// chained: commands and answers with their Sums, whether they may be or not.
func chained(l []api.Command, answers []api.Answer) []api.Entry {
	var out []api.Entry
	sum := make([]byte, 32)
	for i, c := range l {
		sum = summed(sum, c, answers[i])
		out = append(out, api.Entry{What: c, Answer: answers[i], Sum: sum})
	}
	return out
}

// wantChain: the entries and the store that come of commands.
func wantChain(t *testing.T, l []api.Command, want []api.Entry, end api.Store) {
	t.Helper()
	got, s, e := vault.Chain(l)
	if e != api.OK || len(got) != len(want) || s != end {
		t.Fatalf("%v: %d entries, %v, %d, want %d, %v", l, len(got), s, int(e), len(want), end)
	}
	for i, x := range want {
		if got[i].What != x.What || got[i].Answer != x.Answer || !bytes.Equal(got[i].Sum, x.Sum) {
			t.Errorf("%v, at %d: %v, want %v", l, i, got[i], x)
		}
	}
}

// wantNoChain: commands are refused.
func wantNoChain(t *testing.T, what string, l []api.Command, want api.Errno) {
	t.Helper()
	if got, s, e := vault.Chain(l); e != want || len(got) != 0 || s != (api.Store{}) {
		t.Errorf("%s: %v, %v, %d, want nothing, %d", what, got, s, int(e), int(want))
	}
}

// many: so many puts.
func many(n int) []api.Command {
	var l []api.Command
	for i := range n {
		l = append(l, put(i%8, i, i%5, i+1))
	}
	return l
}

// manyChained: their chain, with the answers told by hand.
func manyChained(n int) []api.Entry {
	var answers []api.Answer
	for i := range n {
		answers = append(answers, value(i+1))
	}
	return chained(many(n), answers)
}

// TestChainOfExamples: P10.3: the story that is told, and each piece of it from its beginning on.
func TestChainOfExamples(t *testing.T) {
	wantChain(t, toldCommands(), toldChain(), toldEnd)
	var s api.Store
	for n := range told {
		wantChain(t, toldCommands()[:n], toldChain()[:n], s)
		s, _, _ = vault.Do(s, told[n].what)
	}
}

// TestChainOfNone: P10.3: no commands, no entries, and the empty store.
func TestChainOfNone(t *testing.T) {
	wantChain(t, nil, nil, api.Store{})
	wantChain(t, []api.Command{}, nil, api.Store{})
	wantChain(t, toldCommands()[:0], nil, api.Store{})
}

// TestChainOfNoops: P10.3: each has a Sum of its own; the first one and the last one of MaxLog were worked out apart from the program.
func TestChainOfNoops(t *testing.T) {
	l, s, e := vault.Chain(make([]api.Command, api.MaxLog))
	if e != api.OK || len(l) != 200 || s != (api.Store{}) {
		t.Fatalf("%d entries, %v, %d", len(l), s, int(e))
	}
	for i, want := range map[int]string{
		0:   "5dcc1b5872dd9ff1c234501f1fefda01f664164e1583c3e1bb3dbea47588ab31",
		199: "26a146103a582d26046065a5a8d146b34f8c39a6675ca09f3738ddd874903b62",
	} {
		if l[i].What != (api.Command{}) || l[i].Answer != (api.Answer{}) || !bytes.Equal(l[i].Sum, unhex(want)) {
			t.Errorf("%d: %v, want the Sum %s", i, l[i], want)
		}
	}
	met := map[string]bool{}
	for _, x := range l {
		met[string(x.Sum)] = true
	}
	if len(met) != 200 {
		t.Errorf("%d Sums of 200", len(met))
	}
}

// TestChainOfSizes: P10.3: MaxLog commands, and one below; more are refused, whatever else is wrong with them.
func TestChainOfSizes(t *testing.T) {
	for _, n := range []int{1, 199, 200} {
		_, s, _ := vault.Chain(many(n))
		wantChain(t, many(n), manyChained(n), s)
	}
	for _, n := range []int{201, 202, 400, 5000} {
		wantNoChain(t, fmt.Sprint(n, " Noops"), make([]api.Command, n), api.ErrSize)
		wantNoChain(t, fmt.Sprint(n, " puts"), many(n), api.ErrSize)
		for _, c := range wrongCommands()[:8] {
			for _, place := range []int{0, n / 2, 199, 200, n - 1} {
				l := many(n)
				l[place] = c.what
				wantNoChain(t, fmt.Sprint(n, " puts, ", c.what, " at ", place), l, api.ErrSize)
			}
		}
	}
}

// TestChainRefuses: P10.3: a command that may not be, at the first place, in the midst and at the last; of two the first one is named.
func TestChainRefuses(t *testing.T) {
	for _, c := range wrongCommands() {
		for _, n := range []int{1, 2, 9, 200} {
			for _, place := range []int{0, n / 2, n - 1} {
				l := many(n)
				l[place] = c.what
				wantNoChain(t, fmt.Sprint(n, " puts, ", c.what, " at ", place), l, c.want)
			}
		}
		for _, other := range []api.Command{{Kind: 9}, {Seq: 1}, put(8, 0, 0, 0)} {
			l := many(9)
			l[3], l[6] = c.what, other
			wantNoChain(t, fmt.Sprint(c.what, " ahead of ", other), l, c.want)
		}
	}
}

// TestChainBeginsWithTheShorter: P10.3: what comes of it: more commands have the entries of the fewer ahead.
func TestChainBeginsWithTheShorter(t *testing.T) {
	d := die(77)
	l := drawn(&d, 60)
	whole, _, _ := vault.Chain(l)
	for n := range l {
		_, s, _ := vault.Chain(l[:n])
		wantChain(t, l[:n], whole[:n], s)
	}
}
