package poly

const (
	limbCount = 5
	limbBits  = 26
	limbMask  = 1<<limbBits - 1
	// 2^130 and this are the same modulo 2^130 - 5: what runs over the last limb comes back so many times at the first one.
	wrap = 5
)

// number modulo 2^130 - 5: limbs of 26 bits, the lowest one first, each with room above them for what is not yet carried.
type number [limbCount]uint64

// read a number of at most seventeen bytes, the lowest one first.
func read(b []byte) number {
	var n number
	for i, x := range b {
		n[8*i/limbBits] += uint64(x) << (8 * i % limbBits)
	}
	return n.carried()
}

// plus another one; nothing is carried, since times has room for the sum of two.
func (n number) plus(m number) number {
	for i, x := range m {
		n[i] += x
	}
	return n
}

// times another one. Where n's limbs are below 2^27 and m's below 2^26, what is summed up in a limb stays below 2^58.
func (n number) times(m number) number {
	var out number
	for i, x := range n {
		for j, y := range m {
			if i+j < limbCount {
				out[i+j] += x * y
			} else {
				out[i+j-limbCount] += x * y * wrap
			}
		}
	}
	return out.carried()
}

// carried: the same modulo 2^130 - 5, each limb below 2^26. Of limbs below 2^60 a first round leaves less than 2^37 above the first one's bits, a second one at most a bit, and a third one nothing.
func (n number) carried() number {
	for range 3 {
		var over uint64
		n, over = n.once()
		n[0] += over * wrap
	}
	return n
}

// once: what is above each limb's bits goes to the next one, and what is above the last one's comes out.
func (n number) once() (number, uint64) {
	var over uint64
	for i := range n {
		n[i] += over
		over = n[i] >> limbBits
		n[i] &= limbMask
	}
	return n, over
}

// least: of a number that is carried, the one from 0 to 2^130 - 6 that is the same modulo 2^130 - 5: it is at least the modulus just where 5 more runs over 2^130.
func (n number) least() number {
	more := n
	more[0] += wrap
	more, over := more.once()
	if over > 0 {
		return more
	}
	return n
}

// byteAt a place, of a number that is carried; places are from 0 to 15.
func (n number) byteAt(i int) byte {
	limb, shift := 8*i/limbBits, 8*i%limbBits
	x := n[limb] >> shift
	if shift > limbBits-8 {
		x |= n[limb+1] << (limbBits - shift)
	}
	return byte(x)
}
