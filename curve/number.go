package curve

const (
	limbCount = 16
	limbBits  = 16
	limbMask  = 1<<limbBits - 1
	// 2^256 and this are the same modulo 2^255 - 19: what runs over the last limb comes back so many times at the first one.
	wrap   = 38
	topBit = 254 // the highest bit of a secret, and of the modulus
)

// number modulo 2^255 - 19: limbs of 16 bits, the lowest one first. On the way a limb may be greater, or below 0.
type number [limbCount]int64

// modulus p, which is 2^255 - 19.
var modulus = number{
	0xffed, 0xffff, 0xffff, 0xffff, 0xffff, 0xffff, 0xffff, 0xffff,
	0xffff, 0xffff, 0xffff, 0xffff, 0xffff, 0xffff, 0xffff, 0x7fff,
}

// read a number of 32 bytes, the lowest one first.
func read(b []byte) number {
	var n number
	for i := range n {
		n[i] = int64(b[2*i]) | int64(b[2*i+1])<<8
	}
	return n
}

// written: the 32 bytes of a number that is carried, the lowest one first.
func (n number) written() []byte {
	b := make([]byte, size)
	for i, x := range n {
		b[2*i], b[2*i+1] = byte(x), byte(x>>8)
	}
	return b
}

// bit at a place, of a number that is carried.
func (n number) bit(i int) int64 { return n[i/limbBits] >> (i % limbBits) & 1 }

// plus another one; nothing is carried.
func (n number) plus(m number) number {
	for i, x := range m {
		n[i] += x
	}
	return n
}

// minus another one; nothing is carried, so that limbs may be below 0.
func (n number) minus(m number) number {
	for i, x := range m {
		n[i] -= x
	}
	return n
}

// times another one. Where the limbs of both are between -2^17 and 2^17, what is summed up in a limb stays between -2^44 and 2^44.
func (n number) times(m number) number {
	var out number
	for i, x := range n {
		for j, y := range m {
			if i+j < limbCount {
				out[i+j] += x * y
			} else {
				out[i+j-limbCount] += x * y * wrap
			}
		}
	}
	return out.carried()
}

// carried: the same modulo 2^255 - 19, each limb from 0 to 2^16 - 1. Of limbs between -2^56 and 2^56 a first round leaves what is not yet carried in the first limb alone, between -2^47 and 2^47; a second one brings back at most one time 38, above or below 0; and a third one has room for that.
func (n number) carried() number {
	for range 3 {
		var over int64
		n, over = n.once()
		n[0] += over * wrap
	}
	return n
}

// once: what is above each limb's bits, or below 0, goes to the next one, and what is above the last one's, or below 0, comes out.
func (n number) once() (number, int64) {
	var over int64
	for i := range n {
		n[i] += over
		over = n[i] >> limbBits
		n[i] &= limbMask
	}
	return n, over
}

// least: of a number that is carried, the one below the modulus that is the same modulo it. Below 2^256 there is room for the modulus twice.
func (n number) least() number {
	for range 2 {
		if less, over := n.minus(modulus).once(); over == 0 {
			n = less
		}
	}
	return n
}

// inverse: one divided by the number, which is its power by the modulus less two.
func (n number) inverse() number {
	power := modulus.minus(number{2})
	out := number{1}
	for i := topBit; i >= 0; i-- {
		out = out.times(out)
		if power.bit(i) == 1 {
			out = out.times(n)
		}
	}
	return out
}
