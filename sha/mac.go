package sha

// What is mixed into each byte of a key, ahead of the inner and of the outer digest.
const (
	innerMark = 54
	outerMark = 92
)

// mac has no bounds of its own: its callers refuse what is too long.
func mac(key, b []byte) []byte {
	full := fullKey(key)
	inner := digest(append(marked(full, innerMark), b...))
	return digest(append(marked(full, outerMark), inner...))
}

// fullKey: a key as one block.
func fullKey(key []byte) [blockSize]byte {
	if len(key) > blockSize {
		key = digest(key)
	}
	var full [blockSize]byte
	copy(full[:], key)
	return full
}

// marked: a list of its own, so that a caller may append to it.
func marked(full [blockSize]byte, mark byte) []byte {
	out := make([]byte, 0, blockSize)
	for _, x := range full {
		out = append(out, x^mark)
	}
	return out
}

// expand: the first n bytes of the blocks that are drawn under a key.
func expand(key, info []byte, n int) []byte {
	out := make([]byte, 0, n)
	var block []byte
	// MaxOut is far below 255 blocks: the byte that counts them does not wrap round.
	for count := byte(1); len(out) < n; count++ {
		block = mac(key, numbered(block, info, count))
		// Cut here, not at the end: bytes that nobody asked for stay out of the answer's spare room.
		out = append(out, block[:min(digestSize, n-len(out))]...)
	}
	return out
}

// numbered: what a block is made of, in a list of its own.
func numbered(ahead, info []byte, count byte) []byte {
	out := make([]byte, 0, len(ahead)+len(info)+1)
	out = append(out, ahead...)
	out = append(out, info...)
	return append(out, count)
}
