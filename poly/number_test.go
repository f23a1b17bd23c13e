package poly

import "testing"

const (
	top  = limbMask
	wide = 1<<27 - 1 // the most that a limb of a sum of two has
)

// TestRead: P3.1: sixteen and seventeen bytes as limbs, and back.
func TestRead(t *testing.T) {
	counted := make([]byte, 17)
	for i := range counted {
		counted[i] = byte(i + 1)
	}
	counted[16] = 3 // more of it would run over 2^130
	marked := [17]byte{255, 255, 255, 255, 255, 255, 255, 255, 255, 255, 255, 255, 255, 255, 255, 255, 1}
	for _, c := range []struct {
		b    []byte
		want number
	}{
		{nil, number{}},
		{[]byte{7}, number{7}},
		{counted, number{0x30201, 0x1c18141, 0xa09080, 0x34302c, 0x3100f0e}},
		{marked[:16], number{top, top, top, top, 0xffffff}},
		{marked[:], number{top, top, top, top, 0x1ffffff}},
	} {
		n := read(c.b)
		if n != c.want {
			t.Errorf("%x: %x, want %x", c.b, n, c.want)
		}
		for i := range min(16, len(c.b)) {
			if got := n.byteAt(i); got != c.b[i] {
				t.Errorf("%x: the byte %d is %x", c.b, i, got)
			}
		}
	}
}

// TestCarried: P3.1: great limbs, those that need each round, and numbers about 2^130 - 5.
func TestCarried(t *testing.T) {
	const most = 1<<60 - 1
	for _, c := range []struct{ from, want number }{
		{number{}, number{}},
		{number{most, most, most, most, most}, number{0x4ff, 0x4ff, 0xff, 0xff, 0xff}},
		{number{0, 0, 0, 0, most}, number{top - 4, 0x4ff, 0, 0, top}},
		{number{wide, top, top, top, top}, number{4, 1}},
		{number{wide, wide, wide, wide, wide}, number{9, 1, 1, 1, 1}},
		{number{1<<25 - 1, top, top, top, 1<<51 + top}, number{4, 2}},
		{number{top - 6, top, top, top, top}, number{top - 6, top, top, top, top}},
		{number{top - 5, top, top, top, top}, number{top - 5, top, top, top, top}},
		{number{top - 4, top, top, top, top}, number{}},
		{number{top - 3, top, top, top, top}, number{1}},
		{number{top, top, top, top, top}, number{4}},
		{number{top + 1, top, top, top, top}, number{5}},
		{number{top - 5, top, top, top, top - 1}, number{top - 5, top, top, top, top - 1}},
	} {
		n := c.from.carried()
		for i, x := range n {
			if x > limbMask {
				t.Errorf("%x: the limb %d is %x", c.from, i, x)
			}
		}
		if got := n.least(); got != c.want {
			t.Errorf("%x: %x, want %x", c.from, got, c.want)
		}
	}
}

// TestTimes: P3.1: products of the greatest limbs, and of single ones that wrap round or do not.
func TestTimes(t *testing.T) {
	below := number{top - 5, top, top, top, top}
	for _, c := range []struct{ n, m, want number }{
		{number{wide, wide, wide, wide, wide}, number{top, top, top, top, top}, number{0x24, 4, 4, 4, 4}},
		{number{wide, wide, wide, wide, wide}, number{top}, number{top - 3, 7}},
		{number{0, 0, 0, 0, wide}, number{0, 0, 0, 0, top}, number{0x2d, 0, 0, 5, top - 14}},
		{number{3}, number{0, 0, 0, 0, 7}, number{0, 0, 0, 0, 21}},
		{number{0, 0, 1}, number{0, 0, 1}, number{0, 0, 0, 0, 1}},
		{number{0, 0, 1}, number{0, 0, 0, 1}, number{5}},
		{below, below, number{1}},
		{below, number{1}, below},
		{below, number{}, number{}},
	} {
		if got := c.n.times(c.m).least(); got != c.want {
			t.Errorf("%x times %x: %x, want %x", c.n, c.m, got, c.want)
		}
		if got := c.m.times(c.n).least(); got != c.want {
			t.Errorf("%x times %x: %x, want %x", c.m, c.n, got, c.want)
		}
	}
}
