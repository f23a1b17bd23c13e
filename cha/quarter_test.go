package cha

import "testing"

// TestQuarter: P2.1: the standard's own example, and words that wrap round.
func TestQuarter(t *testing.T) {
	for _, c := range []struct{ from, want [4]uint32 }{
		{[4]uint32{0x11111111, 0x01020304, 0x9b8d6f43, 0x01234567}, [4]uint32{0xea2a92f4, 0xcb1cf8ce, 0x4581472e, 0x5881c4bb}},
		{[4]uint32{}, [4]uint32{}},
		{[4]uint32{0, 0, 0, 1}, [4]uint32{0x10000000, 0x80800808, 0x01010010, 0x01000010}},
		{[4]uint32{0xffffffff, 0xffffffff, 0xffffffff, 0xffffffff}, [4]uint32{0xf0000ffd, 0x88790878, 0x0110fdef, 0x010ffdf0}},
	} {
		s := state{c.from[0], c.from[1], c.from[2], c.from[3]}
		s.quarter(0, 1, 2, 3)
		if got := [4]uint32(s[:4]); got != c.want {
			t.Errorf("%08x: %08x, want %08x", c.from, got, c.want)
		}
	}
}

// TestQuarterWithinState: P2.1: the standard's own example: four words change, the others stay.
func TestQuarterWithinState(t *testing.T) {
	s := state{
		0x879531e0, 0xc5ecf37d, 0x516461b1, 0xc9a62f8a,
		0x44c20ef3, 0x3390af7f, 0xd9fc690b, 0x2a5f714c,
		0x53372767, 0xb00a5631, 0x974c541a, 0x359e9963,
		0x5c971061, 0x3d631689, 0x2098d9d6, 0x91dbd320,
	}
	want := s
	want[2], want[7], want[8], want[13] = 0xbdb886dc, 0xcfacafd2, 0xe46bea80, 0xccc07c79
	s.quarter(2, 7, 8, 13)
	if s != want {
		t.Errorf("%08x, want %08x", s, want)
	}
}
