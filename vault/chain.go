package vault

import (
	"slices"

	"conclave/api"
	"conclave/order"
	"conclave/sha"
)

const sumSize = 32

// tail: where a chain ends so far: what its commands have made, and its last Sum.
type tail struct {
	store api.Store
	sum   []byte
}

// beginning of every chain.
func beginning() tail { return tail{sum: make([]byte, sumSize)} }

// linked: the entry of a command that is done behind a chain, and where the chain ends then.
func (t tail) linked(c api.Command) (api.Entry, tail, api.Errno) {
	store, answer, e := Do(t.store, c)
	if e != api.OK {
		return api.Entry{}, tail{}, e
	}
	sum, e := sumOf(t.sum, c, answer)
	if e != api.OK {
		return api.Entry{}, tail{}, e
	}
	return api.Entry{What: c, Answer: answer, Sum: sum}, tail{store: store, sum: sum}, api.OK
}

// sumOf a command and its answer, behind the Sum ahead of them.
func sumOf(ahead []byte, c api.Command, a api.Answer) ([]byte, api.Errno) {
	what, e := order.Encode(c)
	if e != api.OK {
		return nil, e
	}
	return sha.Sum(slices.Concat(ahead, what, answerBytes(a)))
}

// answerBytes: what an answer is made of, four bytes each, the highest one first.
func answerBytes(a api.Answer) []byte {
	var b []byte
	for _, n := range [...]int{int(a.Code), a.Value} {
		b = append(b, byte(n>>24), byte(n>>16), byte(n>>8), byte(n))
	}
	return b
}

// same: are two entries of one command the same? The answers are compared too: a Sum has no more of them than four bytes each.
func same(a, b api.Entry) bool {
	return a.Answer == b.Answer && sha.Same(a.Sum, b.Sum)
}
