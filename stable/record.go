package stable

import (
	"conclave/api"
	"conclave/order"
	"conclave/sha"
)

const (
	promiseMark = 1
	voteMark    = 2

	numberSize    = 4
	commandSize   = 20
	promiseLength = 1 + 2*numberSize
	voteLength    = 1 + 3*numberSize + commandSize

	sumSize     = 4
	aroundBody  = 1 + sumSize // the byte with the body's length, and the sum's beginning
	promiseSize = aroundBody + promiseLength
	voteSize    = aroundBody + voteLength
)

// putNumbers behind bytes, four bytes each, the highest one first.
func putNumbers(b []byte, numbers ...int) []byte {
	for _, n := range numbers {
		b = append(b, byte(n>>24), byte(n>>16), byte(n>>8), byte(n))
	}
	return b
}

// numberAt: the number of which the four bytes from a place on are.
func numberAt(b []byte, place int) int {
	n := 0
	for _, x := range b[place : place+numberSize] {
		n = n<<8 | int(x)
	}
	return n
}

// promiseBody: what is written of a ballot.
func promiseBody(b api.Ballot) []byte {
	return putNumbers([]byte{promiseMark}, b.Round, b.Node)
}

// voteBody: what is written of a vote, with the bytes of its command.
func voteBody(v api.Vote, what []byte) []byte {
	return append(putNumbers([]byte{voteMark}, v.Slot, v.Ballot.Round, v.Ballot.Node), what...)
}

// ballotOf the bytes of its two numbers; it is not said that it may be.
func ballotOf(b []byte) api.Ballot {
	return api.Ballot{Round: numberAt(b, 0), Node: numberAt(b, numberSize)}
}

// voteOf the bytes of its slot, its ballot and its command; of slot and ballot it is not said that they may be.
func voteOf(b []byte) (api.Vote, api.Errno) {
	what, e := order.Decode(b[3*numberSize:])
	if e != api.OK {
		return api.Vote{}, e
	}
	return api.Vote{Slot: numberAt(b, 0), Ballot: ballotOf(b[numberSize:]), What: what}, api.OK
}

// sumOf bytes: the beginning of their digest.
func sumOf(b []byte) ([]byte, api.Errno) {
	sum, e := sha.Sum(b)
	if e != api.OK {
		return nil, e
	}
	return sum[:sumSize], api.OK
}

// recordOf a body.
func recordOf(body []byte) ([]byte, api.Errno) {
	record := append([]byte{byte(len(body))}, body...)
	sum, e := sumOf(record)
	if e != api.OK {
		return nil, e
	}
	return append(record, sum...), api.OK
}

// firstBody: the body of the record that stands first, and whether it is whole: all of its bytes are there, with the right sum.
func firstBody(data []byte) ([]byte, bool) {
	if len(data) == 0 {
		return nil, false
	}
	end := 1 + int(data[0])
	if len(data) < end+sumSize {
		return nil, false
	}
	sum, e := sumOf(data[:end])
	if e != api.OK || !sha.Same(sum, data[end:end+sumSize]) {
		return nil, false
	}
	return data[1:end], true
}
