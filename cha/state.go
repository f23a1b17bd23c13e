package cha

import "math/bits"

const (
	blockSize  = 64
	turns      = 10
	keyAt      = 4 // where in a state the key's words stand
	counterAt  = 12
	nonceAt    = 13
	stateWords = 16
)

// state of a block.
type state [stateWords]uint32

// quarters of a turn, by their places: down the columns first, then along the slants.
var quarters = [8][4]int{
	{0, 4, 8, 12}, {1, 5, 9, 13}, {2, 6, 10, 14}, {3, 7, 11, 15},
	{0, 5, 10, 15}, {1, 6, 11, 12}, {2, 7, 8, 13}, {3, 4, 9, 14},
}

// begun: the state ahead of the first turn.
func begun(key []byte, counter int, nonce []byte) state {
	s := state{0x61707865, 0x3320646e, 0x79622d32, 0x6b206574}
	readWords(s[keyAt:counterAt], key)
	s[counterAt] = uint32(counter)
	readWords(s[nonceAt:], nonce)
	return s
}

// readWords of four bytes each, the lowest one first.
func readWords(words []uint32, b []byte) {
	for i := range words {
		words[i] = uint32(b[4*i]) | uint32(b[4*i+1])<<8 | uint32(b[4*i+2])<<16 | uint32(b[4*i+3])<<24
	}
}

// scrambled: the block that comes of a state.
func scrambled(first state) [blockSize]byte {
	s := first
	for range turns {
		for _, at := range quarters {
			s.quarter(at[0], at[1], at[2], at[3])
		}
	}
	var block [blockSize]byte
	for i, x := range s {
		x += first[i]
		block[4*i], block[4*i+1], block[4*i+2], block[4*i+3] = byte(x), byte(x>>8), byte(x>>16), byte(x>>24)
	}
	return block
}

// quarter at four places.
func (s *state) quarter(a, b, c, d int) {
	s.grow(a, b, d, 16)
	s.grow(c, d, b, 12)
	s.grow(a, b, d, 8)
	s.grow(c, d, b, 7)
}

// grow the word at one place by that at another; a third one is mixed with it and turned left.
func (s *state) grow(at, by, third, left int) {
	s[at] += s[by]
	s[third] = bits.RotateLeft32(s[third]^s[at], left)
}

// mixed: data mixed with the blocks from a state on.
func mixed(s state, data []byte) []byte {
	out := make([]byte, 0, len(data))
	for len(out) < len(data) {
		block := scrambled(s)
		for _, x := range block[:min(blockSize, len(data)-len(out))] {
			out = append(out, x^data[len(out)])
		}
		// MaxCounter bounds the first block alone: those behind it are far from wrapping round.
		s[counterAt]++
	}
	return out
}
