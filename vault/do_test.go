package vault_test

import (
	"testing"

	"conclave/api"
	"conclave/vault"
)

// wantDo: what a command makes of a store, and its answer.
func wantDo(t *testing.T, s api.Store, c api.Command, after api.Store, answer api.Answer) {
	t.Helper()
	before := s
	got, a, e := vault.Do(s, c)
	if e != api.OK || got != after || a != answer {
		t.Errorf("%v of %v:\n%v, %v, %d, want\n%v, %v", c, s, got, a, int(e), after, answer)
	}
	if s != before {
		t.Errorf("%v: the store that was handed in is changed", c)
	}
	if e := vault.Check(got); e != api.OK {
		t.Errorf("%v of %v: %v may not be", c, s, got)
	}
}

// wantSame: a command changes nothing.
func wantSame(t *testing.T, s api.Store, c api.Command, answer api.Answer) {
	t.Helper()
	wantDo(t, s, c, s, answer)
}

// wantNotDone: a command is refused.
func wantNotDone(t *testing.T, s api.Store, c api.Command, want api.Errno) {
	t.Helper()
	if got, a, e := vault.Do(s, c); e != want || got != (api.Store{}) || a != (api.Answer{}) {
		t.Errorf("%v of %v: %v, %v, %d, want nothing, %d", c, s, got, a, int(e), int(want))
	}
}

// answered: the store in which a client was answered, of a command that was done.
func answered(s api.Store, c api.Command, a api.Answer) api.Store {
	s.Last[c.Client], s.Answers[c.Client] = c.Seq+1, a
	return s
}

// ofEachKind: a command of each kind but a Noop, of a client, with a Seq.
func ofEachKind(client, seq int) []api.Command {
	return []api.Command{put(client, seq, 5, 88), put(client, seq, 5, 0), get(client, seq, 5), revoke(client, seq, 5), revoke(client, seq, client)}
}

// TestDoOfWrongStores: P10.2: stores that may not be, ahead of what is wrong with a command.
func TestDoOfWrongStores(t *testing.T) {
	commands := []api.Command{{}, put(1, 2, 3, 4), get(0, 0, 0), revoke(7, 100, 7)}
	for _, c := range []wrongCommand{wrongCommands()[0], wrongCommands()[2], wrongCommands()[7]} {
		commands = append(commands, c.what)
	}
	for _, s := range wrongStores() {
		for _, c := range commands {
			wantNotDone(t, s, c, api.ErrState)
		}
	}
}

// TestDoOfWrongCommands: P10.2: what order's Check refuses, with the same error, whatever the client's Last is, and whether it is revoked.
func TestDoOfWrongCommands(t *testing.T) {
	revoked, last := full(), full()
	for i := range api.MaxClient + 1 {
		revoked.Revoked[i], last.Last[i] = true, api.MaxSeq+1
	}
	for _, c := range wrongCommands() {
		for _, s := range []api.Store{{}, full(), revoked, last} {
			wantNotDone(t, s, c.what, c.want)
		}
	}
}

// TestDoOfNoop: P10.2: nothing changes, whatever was done and whoever is revoked.
func TestDoOfNoop(t *testing.T) {
	for _, s := range rightStores() {
		wantSame(t, s, api.Command{}, api.Answer{})
	}
	// a Noop is not the command of the client 0, though its Client and its Seq are 0
	for _, last := range []int{1, 2, api.MaxSeq + 1} {
		s := api.Store{}
		s.Last[0], s.Answers[0], s.Revoked[0] = last, value(5), true
		wantSame(t, s, api.Command{}, api.Answer{})
	}
}

// TestDoOfPut: P10.2: of each client, to each name, at the bounds of Value and Seq.
func TestDoOfPut(t *testing.T) {
	for client := range api.MaxClient + 1 {
		for name := range api.Names {
			for _, n := range []int{0, 1, 77, api.MaxValue - 1, api.MaxValue} {
				for _, seq := range []int{17, 18, 100, api.MaxSeq - 1, api.MaxSeq} {
					for _, s := range []api.Store{{}, full()} {
						c := put(client, seq, name, n)
						after := answered(s, c, value(n))
						after.Values[name] = n
						wantDo(t, s, c, after, value(n))
					}
				}
			}
		}
	}
}

// TestDoOfGet: P10.2: of each client, of each name, put or not; no value changes.
func TestDoOfGet(t *testing.T) {
	for client := range api.MaxClient + 1 {
		for name := range api.Names {
			c := get(client, 17, name)
			wantDo(t, api.Store{}, c, answered(api.Store{}, c, value(0)), value(0))
			wantDo(t, full(), c, answered(full(), c, value(1000+name)), value(1000+name))
			for _, n := range []int{0, 1, api.MaxValue - 1, api.MaxValue} {
				s := full()
				s.Values[name] = n
				wantDo(t, s, c, answered(s, c, value(n)), value(n))
			}
		}
	}
}

// TestDoOfRevoke: P10.2: of each client, by each client, itself too; the revoked one keeps its Last and its Answer; twice is as once.
func TestDoOfRevoke(t *testing.T) {
	for client := range api.MaxClient + 1 {
		for name := range api.MaxClient + 1 {
			for _, s := range []api.Store{{}, full()} {
				c := revoke(client, 17, name)
				once := answered(s, c, api.Answer{})
				once.Revoked[name] = true
				wantDo(t, s, c, once, api.Answer{})
				again := revoke(client, 18, name)
				if client == name {
					wantSame(t, once, again, code(api.ErrRight))
				} else {
					wantDo(t, once, again, answered(once, again, api.Answer{}), api.Answer{})
				}
				other := revoke((name+1)%8, 40, name)
				if other.Client != name {
					wantDo(t, once, other, answered(once, other, api.Answer{}), api.Answer{})
				}
			}
		}
	}
}

// TestDoOfSeqs: P10.2: a Seq that is one below the client's Last, two and more below it, the same as it, and above it.
func TestDoOfSeqs(t *testing.T) {
	for client := range api.MaxClient + 1 {
		for _, last := range []int{1, 2, 3, 5, 1000, api.MaxSeq, api.MaxSeq + 1} {
			s := full()
			s.Last[client] = last
			for _, c := range ofEachKind(client, last-1) {
				wantSame(t, s, c, s.Answers[client])
			}
			for _, down := range []int{2, 3, last / 2, last - 1, last} {
				if down < 2 || down > last {
					continue
				}
				for _, c := range ofEachKind(client, last-down) {
					wantSame(t, s, c, code(api.ErrOld))
				}
			}
			for _, seq := range []int{last, last + 1, last + 2, last + 500, api.MaxSeq} {
				if seq < last || seq > api.MaxSeq {
					continue
				}
				wantNewDone(t, s, client, seq)
			}
		}
	}
}

// wantNewDone: a command of each kind is done that comes to a full store for the first time.
func wantNewDone(t *testing.T, s api.Store, client, seq int) {
	t.Helper()
	c := put(client, seq, 5, 88)
	after := answered(s, c, value(88))
	after.Values[5] = 88
	wantDo(t, s, c, after, value(88))
	c = get(client, seq, 5)
	wantDo(t, s, c, answered(s, c, value(1005)), value(1005))
	c = revoke(client, seq, 5)
	after = answered(s, c, api.Answer{})
	after.Revoked[5] = true
	wantDo(t, s, c, after, api.Answer{})
}

// TestDoOnceMore: P10.2: the answer to the last one is the client's Answer, whatever that is, though the command is another.
func TestDoOnceMore(t *testing.T) {
	for client := range api.MaxClient + 1 {
		for _, a := range append(oddAnswers, api.Answer{}) {
			for _, revoked := range []bool{false, true} {
				s := full()
				s.Last[client], s.Answers[client], s.Revoked[client] = 4, a, revoked
				for _, c := range ofEachKind(client, 3) {
					wantSame(t, s, c, a)
				}
			}
		}
	}
}

// TestDoOfOthersSeqs: P10.2: what other clients have had done, and whether they are revoked, is nothing to a client.
func TestDoOfOthersSeqs(t *testing.T) {
	for client := range api.MaxClient + 1 {
		s := full()
		for i := range api.MaxClient + 1 {
			s.Last[i], s.Revoked[i] = api.MaxSeq+1, true
		}
		s.Last[client], s.Answers[client], s.Revoked[client] = 0, api.Answer{}, false
		wantNewDone(t, s, client, 0)
		wantNewDone(t, s, client, 9)
	}
}

// TestDoOfRevoked: P10.2: a revoked client's old command, its last one once more, and a new one.
func TestDoOfRevoked(t *testing.T) {
	for client := range api.MaxClient + 1 {
		for _, last := range []int{0, 1, 2, 7, api.MaxSeq, api.MaxSeq + 1} {
			s := full()
			s.Last[client], s.Revoked[client] = last, true
			if last == 0 {
				s.Answers[client] = api.Answer{}
			}
			for _, seq := range []int{last - 3, last - 2, last - 1, last, last + 1, api.MaxSeq} {
				want := code(api.ErrRight)
				switch {
				case seq < 0 || seq > api.MaxSeq:
					continue
				case seq == last-1:
					want = s.Answers[client]
				case seq < last:
					want = code(api.ErrOld)
				}
				for _, c := range ofEachKind(client, seq) {
					wantSame(t, s, c, want)
				}
			}
		}
	}
}
