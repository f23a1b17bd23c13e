package moot

import (
	"slices"

	"conclave/api"
	"conclave/stable"
	"conclave/vault"
)

// node: one of those that agree.
type node struct {
	number int
	up     bool
	tape   api.Tape
	bad    int
	out    *outside
	memory
}

// memory: what a node knows while it is up; a crash takes all of it.
type memory struct {
	voter  api.Acceptor  // what the tape makes of it, with the bytes that are not synced
	synced []func()      // what is done when the tape is synced
	rounds int           // the greatest round that it was refused for
	round  round         // the round that it began last
	agreed []api.Command // by slots, as far as it knows of all; it grows behind its end alone, so that letters may share it
	done   int           // how many of these it has done
	store  api.Store
	wants  []api.Command              // what it is to see agreed on, in the order in which it came
	asked  map[api.Command]api.Ballot // for each of these the ballot in which it asked for it last
}

// newMemory of a node whose tape makes such an acceptor.
func newMemory(voter api.Acceptor) memory {
	return memory{voter: voter, asked: make(map[api.Command]api.Ballot)}
}

// log of what it has done since it is up.
func (n *node) log() []api.Command { return n.agreed[:n.done] }

// submit: a client's bytes come.
func (n *node) submit(data []byte) {
	if !n.up {
		return
	}
	c, e := Open(data, n.done)
	if e != api.OK {
		n.bad++
		return
	}
	if slices.Contains(n.log(), c) {
		_, answer, _ := vault.Do(n.store, c) // it may be, since it was done
		n.tell(c, answer)
		return
	}
	n.want(c)
}

// piece of a node's work: only here commands are done, and letters sent.
func (n *node) piece() {
	if !n.up {
		return
	}
	n.doAgreed()
	n.ask()
	n.propose()
	n.sync()
	n.teach()
}

// doAgreed: all is done that is agreed on, and was not done yet.
func (n *node) doAgreed() {
	for _, c := range n.agreed[n.done:] {
		store, answer, e := vault.Do(n.store, c)
		if e != api.OK {
			return
		}
		n.store = store
		n.done++
		if n.stopWanting(c) {
			n.tell(c, answer)
		}
	}
}

// tell a client the answer to its command.
func (n *node) tell(c api.Command, a api.Answer) {
	n.out.told = append(n.out.told, api.Told{Node: n.number, Client: c.Client, Seq: c.Seq, Answer: a})
}

// sync the tape, and do what waited for that.
func (n *node) sync() {
	if n.tape.Synced < len(n.tape.Data) {
		tape, e := stable.Sync(n.tape)
		if e != api.OK {
			return
		}
		n.tape = tape
	}
	waited := n.synced
	n.synced = nil
	for _, do := range waited {
		do()
	}
}

// whenSynced: what is to be done when all is synced that is on the tape now.
func (n *node) whenSynced(do func()) { n.synced = append(n.synced, do) }

// send a letter.
func (n *node) send(to int, l letter) {
	l.from, l.to = n.number, to
	n.out.letters = append(n.out.letters, &l)
}

// sendOthers: the same letter goes to each other node.
func (n *node) sendOthers(l letter) {
	for to := range api.MaxNodes {
		if to != n.number {
			n.send(to, l)
		}
	}
}

// crash: nothing but the tape is left, with so many of the bytes that were not synced.
func (n *node) crash(keep int) {
	if !n.up {
		return
	}
	tape, e := stable.Crash(n.tape, keep)
	if e != api.OK {
		return
	}
	n.up, n.tape, n.memory = false, tape, memory{}
}

// start behind a crash, with what the tape says.
func (n *node) start() {
	if n.up {
		return
	}
	voter, whole, e := stable.Recover(n.tape)
	if e == api.OK && whole < len(n.tape.Data) { // it is torn
		n.tape, e = stable.Repair(n.tape)
	}
	if e != api.OK {
		return
	}
	n.up, n.memory = true, newMemory(voter)
	n.whenSynced(func() { n.sendOthers(letter{kind: asking}) })
}
