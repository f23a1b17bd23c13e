package moot

import (
	"slices"

	"conclave/api"
)

// want: a command is to be agreed on, and its answer told.
func (n *node) want(c api.Command) {
	if _, is := n.asked[c]; is {
		return
	}
	n.wants = append(n.wants, c)
	n.asked[c] = api.Ballot{}
}

// stopWanting a command; was it wanted?
func (n *node) stopWanting(c api.Command) bool {
	if _, is := n.asked[c]; !is {
		return false
	}
	delete(n.asked, c)
	place := slices.Index(n.wants, c)
	n.wants = slices.Delete(n.wants, place, place+1)
	return true
}

// ask for what it wants, once in each ballot that it has promised, whoever began that. What is behind the first MaxSlots would find no slot.
func (n *node) ask() {
	b := n.voter.Promised
	var what []api.Command
	for _, c := range n.wants[:min(len(n.wants), api.MaxSlots)] {
		if n.asked[c] != b {
			n.asked[c] = b
			what = append(what, c)
		}
	}
	if len(what) == 0 {
		return
	}
	if b.Node == n.number {
		n.enqueue(what)
		return
	}
	n.send(b.Node, letter{kind: asking, slot: len(n.agreed), what: what})
}

// takeAsking: who asks is told what it does not know of, whether or not this node leads.
func (n *node) takeAsking(l *letter) {
	n.enqueue(l.what)
	if l.slot < len(n.agreed) {
		n.whenSynced(func() { n.tellNews(l.from, l.slot) })
	}
}

// enqueue what is asked for, if the node leads. What is behind MaxSlots others would find no slot.
func (n *node) enqueue(what []api.Command) {
	if !n.leads() {
		return
	}
	for _, c := range what {
		if len(n.round.queue) < api.MaxSlots && !slices.Contains(n.round.queue, c) {
			n.round.queue = append(n.round.queue, c)
		}
	}
}
