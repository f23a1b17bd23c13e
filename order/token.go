package order

import (
	"conclave/api"
	"conclave/sha"
)

const (
	keySize   = 32
	untilAt   = 2 // behind a byte with the Client and one with the Rights
	headSize  = untilAt + numberSize
	tagSize   = 16
	allRights = api.MayRead | api.MayWrite | api.MayAdmin
)

// mayBe: may there be such a token?
func mayBe(t api.Token) bool {
	return upTo(t.Client, api.MaxClient) && upTo(t.Rights, allRights) && upTo(t.Until, api.MaxSlot)
}

// headOf a token: what its tag is made of.
func headOf(t api.Token) []byte {
	return putNumber([]byte{byte(t.Client), byte(t.Rights)}, t.Until)
}

// tokenOf a head; it is not said that it may be.
func tokenOf(head []byte) api.Token {
	return api.Token{Client: int(head[0]), Rights: int(head[1]), Until: numberAt(head, untilAt)}
}

// tagOf a head: the beginning of its Mac.
func tagOf(key, head []byte) ([]byte, api.Errno) {
	mac, e := sha.Mac(key, head)
	if e != api.OK {
		return nil, e
	}
	return mac[:tagSize], api.OK
}
