package sha

import "math/bits"

const (
	blockSize  = 64
	digestSize = 32
	lengthAt   = 56 // where in the last block the number of bits stands
)

// roundWords: K of the standard.
var roundWords = [64]uint32{
	0x428a2f98, 0x71374491, 0xb5c0fbcf, 0xe9b5dba5, 0x3956c25b, 0x59f111f1, 0x923f82a4, 0xab1c5ed5,
	0xd807aa98, 0x12835b01, 0x243185be, 0x550c7dc3, 0x72be5d74, 0x80deb1fe, 0x9bdc06a7, 0xc19bf174,
	0xe49b69c1, 0xefbe4786, 0x0fc19dc6, 0x240ca1cc, 0x2de92c6f, 0x4a7484aa, 0x5cb0a9dc, 0x76f988da,
	0x983e5152, 0xa831c66d, 0xb00327c8, 0xbf597fc7, 0xc6e00bf3, 0xd5a79147, 0x06ca6351, 0x14292967,
	0x27b70a85, 0x2e1b2138, 0x4d2c6dfc, 0x53380d13, 0x650a7354, 0x766a0abb, 0x81c2c92e, 0x92722c85,
	0xa2bfe8a1, 0xa81a664b, 0xc24b8b70, 0xc76c51a3, 0xd192e819, 0xd6990624, 0xf40e3585, 0x106aa070,
	0x19a4c116, 0x1e376c08, 0x2748774c, 0x34b0bcb5, 0x391c0cb3, 0x4ed8aa4a, 0x5b9cca4f, 0x682e6ff3,
	0x748f82ee, 0x78a5636f, 0x84c87814, 0x8cc70208, 0x90befffa, 0xa4506ceb, 0xbef9a3f7, 0xc67178f2,
}

// digest has no bound of its own: what a Mac is made of is longer than what Sum takes.
func digest(b []byte) []byte {
	words := [8]uint32{
		0x6a09e667, 0xbb67ae85, 0x3c6ef372, 0xa54ff53a,
		0x510e527f, 0x9b05688c, 0x1f83d9ab, 0x5be0cd19,
	}
	full := padded(b)
	for at := 0; at < len(full); at += blockSize {
		words = mixed(words, schedule(full[at:at+blockSize]))
	}
	return written(words)
}

// padded: the bytes and what stands behind them, whole blocks in all.
func padded(b []byte) []byte {
	out := make([]byte, 0, len(b)+2*blockSize)
	out = append(out, b...)
	out = append(out, 128)
	for len(out)%blockSize != lengthAt {
		out = append(out, 0)
	}
	count := uint64(len(b)) * 8
	for shift := 56; shift >= 0; shift -= 8 {
		out = append(out, byte(count>>shift))
	}
	return out
}

// schedule: the words W of a block.
func schedule(block []byte) [64]uint32 {
	var w [64]uint32
	for i := range 16 {
		w[i] = uint32(block[4*i])<<24 | uint32(block[4*i+1])<<16 | uint32(block[4*i+2])<<8 | uint32(block[4*i+3])
	}
	for i := 16; i < 64; i++ {
		x, y := w[i-15], w[i-2]
		s0 := right(x, 7) ^ right(x, 18) ^ x>>3
		s1 := right(y, 17) ^ right(y, 19) ^ y>>10
		w[i] = w[i-16] + s0 + w[i-7] + s1
	}
	return w
}

// mixed: the digest's words behind a block with the words w.
func mixed(words [8]uint32, w [64]uint32) [8]uint32 {
	a, b, c, d := words[0], words[1], words[2], words[3]
	e, f, g, h := words[4], words[5], words[6], words[7]
	for i := range w {
		choice := e&f ^ ^e&g
		most := a&b ^ a&c ^ b&c
		up := h + (right(e, 6) ^ right(e, 11) ^ right(e, 25)) + choice + roundWords[i] + w[i]
		down := (right(a, 2) ^ right(a, 13) ^ right(a, 22)) + most
		h, g, f, e = g, f, e, d+up
		d, c, b, a = c, b, a, up+down
	}
	for i, x := range [8]uint32{a, b, c, d, e, f, g, h} {
		words[i] += x
	}
	return words
}

// right: a word, turned right.
func right(x uint32, by int) uint32 { return bits.RotateLeft32(x, -by) }

// written: words as bytes, four each, the highest one first.
func written(words [8]uint32) []byte {
	out := make([]byte, 0, digestSize)
	for _, x := range words {
		out = append(out, byte(x>>24), byte(x>>16), byte(x>>8), byte(x))
	}
	return out
}
