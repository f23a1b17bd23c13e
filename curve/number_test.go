package curve

import (
	"bytes"
	"encoding/hex"
	"testing"
)

const (
	top  = limbMask
	wide = 1<<17 - 1 // the most that a limb of a sum of two has
	most = 1<<56 - 1 // the most that a limb has ahead of carrying
)

// each: a number whose limbs are all this.
func each(x int64) number {
	var n number
	for i := range n {
		n[i] = x
	}
	return n
}

// with: a number, but for one limb.
func (n number) with(i int, x int64) number {
	n[i] = x
	return n
}

// below: the number that is so much less than the modulus.
func below(x int64) number { return modulus.minus(number{x}) }

// TestRead: P5.1: 32 bytes as limbs, the lowest one first, and back.
func TestRead(t *testing.T) {
	var counted [size]byte
	for i := range counted {
		counted[i] = byte(i + 1)
	}
	want := number{0x201, 0x403, 0x605, 0x807, 0xa09, 0xc0b, 0xe0d, 0x100f, 0x1211, 0x1413, 0x1615, 0x1817, 0x1a19, 0x1c1b, 0x1e1d, 0x201f}
	for _, c := range []struct {
		b    []byte
		want number
	}{
		{make([]byte, size), number{}},
		{counted[:], want},
		{bytes.Repeat([]byte{255}, size), each(top)},
		{bytes.Repeat([]byte{0, 128}, limbCount), each(0x8000)},
	} {
		n := read(c.b)
		if n != c.want {
			t.Errorf("%x: %x, want %x", c.b, n, c.want)
		}
		if got := n.written(); !bytes.Equal(got, c.b) {
			t.Errorf("%x: written it is %x", c.b, got)
		}
		for i := range 8 * size {
			if got := n.bit(i); got != int64(c.b[i/8]>>(i%8)&1) {
				t.Errorf("%x: the bit %d is %d", c.b, i, got)
			}
		}
	}
}

// TestSecretNumber: P5.1: which bits of a secret and of a point are taken as nought or as one.
func TestSecretNumber(t *testing.T) {
	full, noughts := bytes.Repeat([]byte{255}, size), make([]byte, size)
	if got := secretNumber(noughts); got != (number{15: 0x4000}) {
		t.Errorf("the secret of noughts: %x", got)
	}
	if got := secretNumber(full); got != each(top).with(0, 0xfff8).with(15, 0x7fff) {
		t.Errorf("the secret with every bit set: %x", got)
	}
	if got := pointNumber(noughts); got != (number{}) {
		t.Errorf("the point of noughts: %x", got)
	}
	if got := pointNumber(full); got != each(top).with(15, 0x7fff) {
		t.Errorf("the point with every bit set: %x", got)
	}
}

// TestPlusMinus: P5.1: limb by limb, below 0 too.
func TestPlusMinus(t *testing.T) {
	n, m := number{1, 2, top, 15: 7}, number{5, 1, top, 3: 9, 15: 8}
	if got := n.plus(m); got != (number{6, 3, 2 * top, 9, 15: 15}) {
		t.Errorf("plus: %d", got)
	}
	if got := n.minus(m); got != (number{-4, 1, 0, -9, 15: -1}) {
		t.Errorf("minus: %d", got)
	}
}

// TestCarried: P5.1: great limbs, limbs below 0, and those that need each round.
func TestCarried(t *testing.T) {
	for _, c := range []struct{ from, want number }{
		{number{}, number{}},
		{each(most), each(0xff).with(0, 0x25ff).with(1, 0x25ff).with(2, 0x25ff)},
		{each(-most), each(0xff00).with(0, 0xd9ee).with(1, 0xda00).with(2, 0xda00).with(15, 0x7f00)},
		{number{15: most}, number{0xffed, 0xffff, 0x25ff, 15: 0x7fff}},
		{number{15: -most}, each(top).with(0, 0).with(1, 0).with(2, 0xda00).with(15, 0)},
		{number{1: -most}, modulus.with(1, 0).with(2, 0).with(3, 0).with(4, 0xff00)},
		{each(most).with(0, -most), each(0xff).with(0, 0x2601).with(1, 0x25ff).with(2, 0x25ff).with(3, 0xfeff).with(4, 0xfe)},
		{each(-most).with(0, most), each(0xff00).with(0, 0xd9ec).with(1, 0xda00).with(2, 0xda00).with(3, 0x100).with(4, 0xff01).with(15, 0x7f00)},
		{number{-1}, below(1)},
		{number{-38}, below(38)},
		{number{-39}, below(39)},
		{number{1: -1}, modulus.with(1, 0xfffe)},
		{number{15: -1}, modulus.with(15, 0x7ffe)},
		{each(top), number{37}},
		{each(top + 1), each(1).with(0, 38)},
		{each(top).with(0, top+1), number{38}},
		{each(top).with(15, wide), number{75}},
		{each(wide), each(1).with(0, 75)},
		{each(-top), below(37)},
		{number{20, 15: -1725 << 16}, modulus.with(0, 0xfff3).with(1, 0xfffe)},
		{each(top).with(0, 65500).with(15, top+1725<<16), number{16, 1}},
		{each(-wide), each(0xfffe).with(0, 0xffa2).with(15, 0x7ffe)},
	} {
		n := c.from.carried()
		for i, x := range n {
			if x < 0 || x > limbMask {
				t.Errorf("%x: the limb %d is %x", c.from, i, x)
			}
		}
		if got := n.least(); got != c.want {
			t.Errorf("%x: %x, want %x", c.from, got, c.want)
		}
	}
}

// TestOnce: P5.1: what comes out above the last limb, and below 0.
func TestOnce(t *testing.T) {
	for _, c := range []struct {
		from, want number
		over       int64
	}{
		{each(top), each(top), 0},
		{each(top).with(0, top+1), number{}, 1},
		{number{-1}, each(top), -1},
		{number{15: -1}, number{15: top}, -1},
		{number{15: 3<<16 + 5}, number{15: 5}, 3},
		{number{-1, 1}, number{top}, 0},
	} {
		if got, over := c.from.once(); got != c.want || over != c.over {
			t.Errorf("%x: %x and %d, want %x and %d", c.from, got, over, c.want, c.over)
		}
	}
}

// TestLeast: P5.1: numbers about p, about 2 p, and the greatest one below 2^256.
func TestLeast(t *testing.T) {
	double := each(top).with(0, 0xffda) // 2 p
	for _, c := range []struct{ from, want number }{
		{number{}, number{}},
		{number{1}, number{1}},
		{below(2), below(2)},
		{below(1), below(1)},
		{modulus, number{}},
		{modulus.plus(number{1}), number{1}},
		{modulus.plus(number{18}), number{18}},
		{number{15: 0x8000}, number{19}},
		{double.minus(number{2}), below(2)},
		{double.minus(number{1}), below(1)},
		{double, number{}},
		{double.plus(number{1}), number{1}},
		{each(top), number{37}},
		{modulus.with(7, 0), modulus.with(7, 0)},
	} {
		if got := c.from.least(); got != c.want {
			t.Errorf("%x: %x, want %x", c.from, got, c.want)
		}
	}
}

// TestTimes: P5.1: products of the greatest limbs, of limbs below 0, and of single ones that wrap round or do not.
func TestTimes(t *testing.T) {
	mixed := each(wide)
	for i := 1; i < limbCount; i += 2 {
		mixed[i] = -wide
	}
	square := number{0x1833, 0x2aa, 0x285, 0x260, 0x23b, 0x216, 0x1f1, 0x1cc, 0x1a7, 0x182, 0x15d, 0x138, 0x113, 0xee, 0xc9, 0xa4}
	for _, c := range []struct{ n, m, want number }{
		{each(wide), each(wide), square},
		{each(-wide), each(-wide), square},
		{each(wide), each(-wide), modulus.minus(square)},
		{number{15: wide}, number{15: wide}, number{0: 0x167d, 14: 0x26, 15: 0x7f68}},
		{mixed, mixed, number{0x2b20, 0xeb7e, 0x1334, 0xee18, 0x109a, 0xf0b2, 0xe00, 0xf34c, 0xb66, 0xf5e6, 0x8cc, 0xf880, 0x632, 0xfb1a, 0x398, 0x7db4}},
		{mixed, each(wide), number{0xe9e3, 0x93, 0xff47, 0x93, 0xff47, 0x93, 0xff47, 0x93, 0xff47, 0x93, 0xff47, 0x93, 0xff47, 0x93, 0xff47, 0x93}},
		{number{3}, number{15: 7}, number{15: 21}},
		{number{7: 1}, number{8: 1}, number{15: 1}},
		{number{8: 1}, number{8: 1}, number{38}},
		{number{15: 1}, number{15: 1}, number{14: 38}},
		{number{-3}, number{5}, below(15)},
		{below(1), below(1), number{1}},
		{below(1), number{1}, below(1)},
		{below(1), number{}, number{}},
		{modulus, each(top), number{}},
	} {
		want, _ := c.want.once() // of a difference, limbs may be below 0
		if got := c.n.times(c.m).least(); got != want {
			t.Errorf("%x times %x: %x, want %x", c.n, c.m, got, want)
		}
		if got := c.m.times(c.n).least(); got != want {
			t.Errorf("%x times %x: %x, want %x", c.m, c.n, got, want)
		}
	}
}

// TestInverse: P5.1: one divided by a number, and nought of nought.
func TestInverse(t *testing.T) {
	for _, c := range []struct {
		n    number
		want string
	}{
		{number{}, "0000000000000000000000000000000000000000000000000000000000000000"},
		{modulus, "0000000000000000000000000000000000000000000000000000000000000000"},
		{number{1}, "0100000000000000000000000000000000000000000000000000000000000000"},
		{number{2}, "f7ffffffffffffffffffffffffffffffffffffffffffffffffffffffffffff3f"},
		{number{3}, "4955555555555555555555555555555555555555555555555555555555555555"},
		{number{9}, "12c7711cc7711cc7711cc7711cc7711cc7711cc7711cc7711cc7711cc7711c47"},
		{curveFactor, "a9073632890d1fdad1ab86bd6729a2f499304632ebdee9d4bc312aeb2d816f3f"},
		{number{0, 1}, "f1ffffffffffffffffffffffffffffffffffffffffffffffffffffffff7f0d65"},
		{number{15: 0x4000}, "2894d7505e43790de53594d7505e43790de53594d7505e43790de53594d7505e"},
		{below(1), "ecffffffffffffffffffffffffffffffffffffffffffffffffffffffffffff7f"},
		{below(2), "f6ffffffffffffffffffffffffffffffffffffffffffffffffffffffffffff3f"},
	} {
		got := c.n.inverse()
		if text := hex.EncodeToString(got.least().written()); text != c.want {
			t.Errorf("%x: %s, want %s", c.n, text, c.want)
		}
		if one := got.times(c.n).least(); one != (number{1}) && c.n.least() != (number{}) {
			t.Errorf("%x times its inverse: %x", c.n, one)
		}
	}
}
