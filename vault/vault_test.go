package vault_test

import (
	"encoding/hex"
	"math"
	"testing"

	"conclave/api"
	"conclave/order"
	"conclave/vault"
)

// die: numbers that look drawn, the same each time.
type die uint64

func (d *die) upTo(most int) int {
	*d = *d*2862933555777941757 + 3037000493
	return int(uint64(*d>>33) % uint64(most+1))
}

// unhex: the bytes that a text tells.
func unhex(s string) []byte {
	b, err := hex.DecodeString(s)
	if err != nil {
		panic(err)
	}
	return b
}

// put, get and revoke: commands of each kind.
func put(client, seq, name, value int) api.Command {
	return api.Command{Kind: api.Put, Client: client, Seq: seq, Name: name, Value: value}
}

func get(client, seq, name int) api.Command {
	return api.Command{Kind: api.Get, Client: client, Seq: seq, Name: name}
}

func revoke(client, seq, name int) api.Command {
	return api.Command{Kind: api.Revoke, Client: client, Seq: seq, Name: name}
}

// value: the answer with a value.
func value(n int) api.Answer { return api.Answer{Value: n} }

// code: the answer with a code.
func code(e api.Errno) api.Answer { return api.Answer{Code: e} }

// full: a store that may be, in which every name has a value, and every client had something done and an answer, no two the same; nobody is revoked.
func full() api.Store {
	var s api.Store
	for i := range api.Names {
		s.Values[i] = 1000 + i
	}
	for i := range api.MaxClient + 1 {
		s.Last[i] = 10 + i
		s.Answers[i] = api.Answer{Code: api.Errno(20 + i), Value: 30 + i}
	}
	return s
}

// far: numbers that no field of anything may be.
var far = []int{
	-1, -2, -8, math.MinInt32, -1 << 32, math.MinInt + 1, math.MinInt,
	api.MaxValue + 1, api.MaxValue + 2, 1 << 31, 1<<32 - 1, 1 << 32, 1<<32 + 1, 1 << 40, math.MaxInt - 1, math.MaxInt,
}

// oddAnswers: answers that are not the zero value, in each field and in both.
var oddAnswers = []api.Answer{
	{Code: 1}, {Code: -1}, {Code: api.ErrOld}, {Code: api.ErrRight}, {Code: 1 << 32}, {Code: math.MinInt}, {Code: math.MaxInt},
	{Value: 1}, {Value: -1}, {Value: api.MaxValue}, {Value: api.MaxValue + 1}, {Value: 1 << 32}, {Value: math.MinInt}, {Value: math.MaxInt},
	{Code: 1, Value: -1}, {Code: -1, Value: 1}, {Code: api.ErrOld, Value: 5},
}

// rightStores: stores that may be, with each field of each name and client at its bounds and beside them.
func rightStores() []api.Store {
	all := []api.Store{{}, full()}
	for i := range api.Names {
		for _, n := range []int{0, 1, api.MaxValue - 1, api.MaxValue} {
			s, f := api.Store{}, full()
			s.Values[i], f.Values[i] = n, n
			all = append(all, s, f)
		}
	}
	for i := range api.MaxClient + 1 {
		s, f := api.Store{}, full()
		f.Last[i], f.Answers[i] = 0, api.Answer{}
		s.Revoked[i] = true
		all = append(all, s, f)
		for _, n := range []int{1, 2, api.MaxSeq - 1, api.MaxSeq, api.MaxSeq + 1} {
			s, f = api.Store{}, full()
			s.Last[i], f.Last[i] = n, n
			f.Revoked[i] = true
			all = append(all, s, f)
			for _, a := range oddAnswers {
				s.Answers[i] = a
				all = append(all, s)
			}
		}
	}
	return all
}

// wrongStores: stores that may not be, by one field of one name or client, and by two.
func wrongStores() []api.Store {
	var all []api.Store
	for i := range api.Names {
		for _, n := range far {
			s, f := api.Store{}, full()
			s.Values[i], f.Values[i] = n, n
			all = append(all, s, f)
		}
	}
	for i := range api.MaxClient + 1 {
		for _, n := range append([]int{api.MaxSeq + 2, api.MaxSeq + 3, 1 << 21}, far...) {
			s, f := api.Store{}, full()
			s.Last[i], f.Last[i] = n, n
			all = append(all, s, f)
		}
		for _, a := range oddAnswers {
			s, f := api.Store{}, full()
			s.Answers[i] = a
			f.Last[i], f.Answers[i] = 0, a
			all = append(all, s, f)
			// another's Last does not help
			s.Last[(i+1)%(api.MaxClient+1)] = 5
			f.Revoked[i] = true
			all = append(all, s, f)
		}
	}
	two := full()
	two.Values[3], two.Last[7] = -1, api.MaxSeq+2
	return append(all, two)
}

// wrongCommand: a command that may not be, and what it is refused with.
type wrongCommand struct {
	what api.Command
	want api.Errno
}

// wrongCommands: by each number, of each kind, and by two at once.
func wrongCommands() []wrongCommand {
	all := []wrongCommand{
		{api.Command{Kind: 4}, api.ErrKind},
		{api.Command{Kind: 4, Client: 8, Value: 1}, api.ErrKind},
		{api.Command{Client: 1}, api.ErrForm},
		{api.Command{Seq: 1}, api.ErrForm},
		{api.Command{Name: 1}, api.ErrForm},
		{api.Command{Value: 1}, api.ErrForm},
		{api.Command{Kind: api.Get, Value: 1}, api.ErrForm},
		{api.Command{Kind: api.Get, Client: 8, Value: 1}, api.ErrRange},
		{api.Command{Kind: api.Get, Value: api.MaxValue}, api.ErrForm},
		{api.Command{Kind: api.Revoke, Value: 1}, api.ErrForm},
		{api.Command{Kind: api.Revoke, Name: 8, Value: 1}, api.ErrRange},
	}
	for _, n := range far {
		all = append(all, wrongCommand{api.Command{Kind: n}, api.ErrKind})
		all = append(all, wrongCommand{api.Command{Seq: n}, api.ErrForm}, wrongCommand{api.Command{Value: n}, api.ErrForm})
		for kind := api.Put; kind <= api.Revoke; kind++ {
			all = append(all,
				wrongCommand{api.Command{Kind: kind, Client: n}, api.ErrRange},
				wrongCommand{api.Command{Kind: kind, Seq: n}, api.ErrRange},
				wrongCommand{api.Command{Kind: kind, Name: n}, api.ErrRange},
				wrongCommand{api.Command{Kind: kind, Value: n}, api.ErrRange})
		}
	}
	for kind := api.Put; kind <= api.Revoke; kind++ {
		all = append(all,
			wrongCommand{api.Command{Kind: kind, Client: 8}, api.ErrRange},
			wrongCommand{api.Command{Kind: kind, Seq: api.MaxSeq + 1}, api.ErrRange},
			wrongCommand{api.Command{Kind: kind, Name: 8}, api.ErrRange})
	}
	return all
}

// TestWrongCommandsAreOrders: the errors that are wanted here are the ones of order.
func TestWrongCommandsAreOrders(t *testing.T) {
	for _, c := range wrongCommands() {
		if e := order.Check(c.what); e != c.want {
			t.Errorf("%v: %d, want %d", c.what, int(e), int(c.want))
		}
	}
}

// TestCheck: P10.1: stores at the bounds of their numbers; an Answer beside a Last that is not 0 may be anything.
func TestCheck(t *testing.T) {
	for _, s := range rightStores() {
		if e := vault.Check(s); e != api.OK {
			t.Errorf("%v: %d, want %d", s, int(e), int(api.OK))
		}
	}
}

// TestCheckRefuses: P10.1: a Value or a Last beyond its bounds; an Answer beside a Last of 0.
func TestCheckRefuses(t *testing.T) {
	for _, s := range wrongStores() {
		if e := vault.Check(s); e != api.ErrState {
			t.Errorf("%v: %d, want %d", s, int(e), int(api.ErrState))
		}
	}
}
