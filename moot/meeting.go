package moot

import (
	"slices"

	"conclave/api"
)

// meeting: all nodes, and what is outside of them.
type meeting struct {
	nodes [api.MaxNodes]*node
	out   *outside
	takes map[kind]func(*node, *letter)
}

// newMeeting of nodes that are all up, with empty tapes.
func newMeeting() *meeting {
	m := &meeting{out: &outside{}, takes: takers()}
	for i := range m.nodes {
		m.nodes[i] = &node{number: i, up: true, out: m.out, memory: newMemory(api.Acceptor{})}
	}
	return m
}

// do an act that may be.
func (m *meeting) do(a api.Act) {
	n := m.nodes[a.Node]
	switch a.Kind {
	case api.Submit:
		n.submit(a.Data)
	case api.Lead:
		n.lead()
	case api.Step:
		n.piece()
	case api.Carry, api.Lose, api.Double:
		m.move(a.Kind, a.At)
	case api.All:
		m.comeAll()
	case api.Crash:
		n.crash(a.Keep)
	case api.Start:
		n.start()
	}
}

// move one letter, as the kind of an act says.
func (m *meeting) move(kind, at int) {
	count := len(m.out.letters)
	if count == 0 {
		return
	}
	place := at % count
	l := m.out.letters[place]
	if kind != api.Double {
		m.out.letters = slices.Delete(m.out.letters, place, place+1)
	}
	if kind != api.Lose {
		m.come(l)
	}
}

// comeAll: all letters come that are on their way.
func (m *meeting) comeAll() {
	l := m.out.letters
	m.out.letters = nil
	for _, x := range l {
		m.come(x)
	}
}

// come: a letter comes to its node, which sends none until it does a piece.
func (m *meeting) come(l *letter) {
	if n := m.nodes[l.to]; n.up {
		m.takes[l.kind](n, l)
	}
}

// outcome so far.
func (m *meeting) outcome() api.Outcome {
	o := api.Outcome{Flying: len(m.out.letters), Told: slices.Clone(m.out.told)}
	for i, n := range m.nodes {
		o.Up[i] = n.up
		o.Bad[i] = n.bad
		o.Logs = append(o.Logs, slices.Clone(n.log()))
	}
	return o
}
