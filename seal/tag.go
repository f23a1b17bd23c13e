package seal

import (
	"conclave/api"
	"conclave/cha"
	"conclave/poly"
)

const (
	tagBlock   = 0 // the counter of the block that the tag's key is the beginning of
	tagKeySize = 32
	pieceSize  = 16 // what a tag is of is filled up to whole pieces
	lengthSize = 8
)

// tagOf what is known and what is sealed.
func tagOf(key, nonce, known, sealed []byte) ([]byte, api.Errno) {
	block, e := cha.Block(key, tagBlock, nonce)
	if e != api.OK {
		return nil, e
	}
	return poly.Tag(block[:tagKeySize], laid(known, sealed))
}

// laid: what the tag is of. The lengths tell where what is known ends, so that no byte can go over from one to the other.
func laid(known, sealed []byte) []byte {
	var b []byte
	b = filled(append(b, known...))
	b = filled(append(b, sealed...))
	b = withLength(b, len(known))
	return withLength(b, len(sealed))
}

// filled with noughts up to a whole piece.
func filled(b []byte) []byte {
	for len(b)%pieceSize != 0 {
		b = append(b, 0)
	}
	return b
}

// withLength: a length behind bytes, the lowest byte first.
func withLength(b []byte, length int) []byte {
	for range lengthSize {
		b = append(b, byte(length))
		length >>= 8
	}
	return b
}
