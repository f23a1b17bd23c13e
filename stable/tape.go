package stable

import (
	"conclave/api"
	"conclave/paxos"
)

// mayBe: may there be such a tape?
func mayBe(t api.Tape) bool {
	return len(t.Data) <= api.MaxBytes && t.Synced >= 0 && t.Synced <= len(t.Data)
}

// checkRoom: may there be such a tape, and has it room for so many bytes more?
func checkRoom(t api.Tape, size int) api.Errno {
	if !mayBe(t) {
		return api.ErrState
	}
	if len(t.Data)+size > api.MaxBytes {
		return api.ErrFull
	}
	return api.OK
}

// firstOf a tape's bytes, so many, all of them synced, in memory of their own.
func firstOf(t api.Tape, n int) api.Tape {
	data := make([]byte, n)
	copy(data, t.Data)
	return api.Tape{Data: data, Synced: n}
}

// withRecord: the tape with a record of a body behind all that is there, in memory of its own.
func withRecord(t api.Tape, body []byte) (api.Tape, api.Errno) {
	record, e := recordOf(body)
	if e != api.OK {
		return api.Tape{}, e
	}
	data := make([]byte, 0, len(t.Data)+len(record))
	data = append(data, t.Data...)
	return api.Tape{Data: append(data, record...), Synced: t.Synced}, api.OK
}

// played: what the records make of an acceptor that has promised nothing, up to the first place without one that is whole and not refused, and where that is.
func played(data []byte) (api.Acceptor, int) {
	var a api.Acceptor
	place := 0
	for {
		body, is := firstBody(data[place:])
		if !is {
			return a, place
		}
		next, e := done(a, body)
		if e != api.OK {
			return a, place
		}
		a, place = next, place+aroundBody+len(body)
	}
}

// done: what a record's body makes of an acceptor.
func done(a api.Acceptor, body []byte) (api.Acceptor, api.Errno) {
	switch {
	case len(body) == promiseLength && body[0] == promiseMark:
		next, _, e := paxos.Promise(a, ballotOf(body[1:]))
		return next, e
	case len(body) == voteLength && body[0] == voteMark:
		v, e := voteOf(body[1:])
		if e != api.OK {
			return api.Acceptor{}, e
		}
		return paxos.Accept(a, v)
	}
	return api.Acceptor{}, api.ErrForm
}
