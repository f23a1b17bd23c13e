package moot

import "conclave/api"

// tellNews: what is known to be agreed on, from a slot on.
func (n *node) tellNews(to, slot int) {
	n.send(to, letter{kind: telling, slot: slot, what: n.agreed[slot:]})
}

// teach the others what was agreed on since they were told, if the node leads.
func (n *node) teach() {
	if !n.leads() {
		return
	}
	for to, slot := range n.round.taught {
		if to != n.number && slot < len(n.agreed) {
			n.tellNews(to, slot)
			n.round.taught[to] = len(n.agreed)
		}
	}
}

// takeNews: what was agreed on; where some is missing ahead of it, the node asks for that.
func (n *node) takeNews(l *letter) {
	if l.slot > len(n.agreed) {
		n.whenSynced(func() { n.send(l.from, letter{kind: asking, slot: len(n.agreed)}) })
		return
	}
	n.learn(l.slot, l.what)
}

// learn what was agreed on from a slot on, which is not behind the first one that the node does not know of.
func (n *node) learn(slot int, what []api.Command) {
	if known := len(n.agreed) - slot; known < len(what) {
		n.agreed = append(n.agreed, what[known:]...)
	}
}
