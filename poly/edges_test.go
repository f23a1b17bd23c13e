package poly_test

import (
	"bytes"
	"encoding/hex"
	"fmt"
	"testing"

	"conclave/api"
	"conclave/poly"
)

// isNought: is this bit of a key's first half to be nought?
func isNought(bit int) bool {
	switch at := bit / 8; at {
	case 3, 7, 11, 15:
		return bit%8 >= 4
	case 4, 8, 12:
		return bit%8 < 2
	}
	return false
}

// TestTagOfNoughtBits: P3.1: bits of the key that are to be nought change nothing, each other one does.
func TestTagOfNoughtBits(t *testing.T) {
	data := pattern(50, 3)
	for _, key := range [][]byte{make([]byte, 32), full(32), pattern(32, 1)} {
		was, _ := poly.Tag(key, data)
		for bit := range 256 {
			other := bytes.Clone(key)
			other[bit/8] ^= 1 << (bit % 8)
			tag, e := poly.Tag(other, data)
			same := bit < 128 && isNought(bit)
			if e != api.OK || len(tag) != 16 || bytes.Equal(tag, was) != same {
				t.Errorf("key %x with the bit %d turned: %x, %d; it was %x", key, bit, tag, int(e), was)
			}
		}
	}
}

// TestTagOfKeysWithNoughtBits: P3.1: such keys, and keys with the bits beside those.
func TestTagOfKeysWithNoughtBits(t *testing.T) {
	for _, c := range []struct{ key, want string }{
		{"ffffffffffffffffffffffffffffffffffffffffffffffffffffffffffffffff", "41d3d274c4c4f269922c91ef8ec1121b"},
		{"ffffffffffffffffffffffffffffffff00000000000000000000000000000000", "42d3d274c4c4f269922c91ef8ec1121b"},
		{"ffffff0ffcffff0ffcffff0ffcffff0f00000000000000000000000000000000", "42d3d274c4c4f269922c91ef8ec1121b"},
		{"0000000800000000000000000000000000000000000000000000000000000000", "3716645cea62a50eeecda3fe5a8baded"},
		{"0000000004000000000000000000000000000000000000000000000000000000", "9fce536b781eba3a0250bb26521c1712"},
		{"0000000000000000000000000000000800000000000000000000000000000000", "7ee98c417e5e0fc4782de2965bd2c59a"},
		{"0000001000000000000000000000000000000000000000000000000000000000", "00000000000000000000000000000000"},
		{"0000000002000000000000000000000000000000000000000000000000000000", "00000000000000000000000000000000"},
	} {
		wantTag(t, "key "+c.key, unhex(t, c.key), pattern(50, 3), c.want)
	}
}

// TestTagOfNoFactor: where r is nought the tag is s, whatever the data.
func TestTagOfNoFactor(t *testing.T) {
	last := pattern(16, 2)
	for _, first := range []string{"00000000000000000000000000000000", "000000f0030000f0030000f0030000f0", "00000080010000100200008003000070"} {
		for _, n := range []int{0, 1, 15, 16, 17, 100, mostData} {
			wantTag(t, fmt.Sprint(first, " at ", n), join(unhex(t, first), last), pattern(n, 3), hex.EncodeToString(last))
			wantTag(t, fmt.Sprint(first, " at ", n, " full"), join(unhex(t, first), full(16)), full(n), hex.EncodeToString(full(16)))
		}
	}
}

// TestTagNearModulus: P3.1: times 1, sums that are by so much greater than 2^130 - 5; and with a byte 5 behind them.
func TestTagNearModulus(t *testing.T) {
	const rest = "ffffffffffffffffffffffffffffff"
	key := join(half(1), half(0))
	for _, c := range []struct {
		more         int
		first        string // a piece's first byte; then come 15 bytes of 255
		second       byte   // the next piece's first byte; then come noughts
		want, behind string
	}{
		{-3, "f8", 0, "f8" + rest, "02010000000000000000000000000000"},
		{-2, "f9", 0, "f9" + rest, "03010000000000000000000000000000"},
		{-1, "fa", 0, "fa" + rest, "04010000000000000000000000000000"},
		{0, "fb", 0, "00000000000000000000000000000000", "05010000000000000000000000000000"},
		{1, "fc", 0, "01000000000000000000000000000000", "06010000000000000000000000000000"},
		{2, "fd", 0, "02000000000000000000000000000000", "07010000000000000000000000000000"},
		{3, "fe", 0, "03000000000000000000000000000000", "08010000000000000000000000000000"},
		{4, "ff", 0, "04000000000000000000000000000000", "09010000000000000000000000000000"},
		{5, "ff", 1, "05000000000000000000000000000000", "0a010000000000000000000000000000"},
		{6, "ff", 2, "06000000000000000000000000000000", "0b010000000000000000000000000000"},
		{11, "ff", 7, "0b000000000000000000000000000000", "10010000000000000000000000000000"},
	} {
		data := join(unhex(t, c.first+rest), half(c.second), half(0))
		wantTag(t, fmt.Sprint(c.more, " more"), key, data, c.want)
		wantTag(t, fmt.Sprint(c.more, " more, and 5"), key, join(data, []byte{5}), c.behind)
	}
}

// TestTagNearModulusOfProducts: P3.1: what is times r comes to -2, -1, 0, 1, 4 and 5 modulo 2^130 - 5; and with a byte 7 behind it.
func TestTagNearModulusOfProducts(t *testing.T) {
	for i, c := range []struct{ r, data, want, behind string }{
		{"ffffff0ffcffff0ffcffff0ffcffff0f", "29fe69bd9e8ceba6a07d1dec25b1b0878e58ff6c10c191fff5e53e3c816a4e9c", "f9ffffffffffffffffffffffffffffff", "0fffff4ffcfbff4ffcfbff4ffcfbff4f"},
		{"457c760f38d8640198c0e50dbcfbc80b", "459506c4f129b2635ed2db28768b0dc3816f459bc5d18569f1d81c6a023d4bca", "f9ffffffffffffffffffffffffffffff", "68b2ccc32771d06bf95a3d2bbaa6e803"},
		{"ffffff0ffcffff0ffcffff0ffcffff0f", "968c0a8a8e5449e0444c86ada1da2fa034eb12ab36e5bbbfcd3ae2f86b7bd018", "faffffffffffffffffffffffffffffff", "0effff5ff8fbff5ff8fbff5ff8fbff5f"},
		{"57d3110c481e6a02e84286031c69300e", "64b84c25fc2d894300ffac10696af454c6f1ad7f162db30fcea0da2218d15153", "faffffffffffffffffffffffffffffff", "194b3e5abcfd9a787279689bab928b85"},
		{"ffffff0ffcffff0ffcffff0ffcffff0f", "4db7dd00961392984a198dadab432ab5eeda99016229eef94747d237deb8861a", "00000000000000000000000000000000", "0dffff6ff4fbff6ff4fbff6ff4fbff6f"},
		{"b3de250d84254101ac6a650a8c5a0d06", "523265b4b434162df39c970efe2195414efe59a0bc99478dfc321a4cd7f438ae", "00000000000000000000000000000000", "eac9e781a98aed49b59630aede05b837"},
		{"ffffff0ffcffff0ffcffff0ffcffff0f", "0944be5ddc7b59604dcf1994241e5bd711971ba492f0e0ef342925bba2d8f19a", "01000000000000000000000000000000", "0cffff7ff0fbff7ff0fbff7ff0fbff7f"},
		{"e81fa009fc1363006484da05ec1c0003", "15f65202d028ec73f74ef60b3ca52fb5be6990fb1d483b77c2e98e7cd04c4229", "01000000000000000000000000000000", "40e720ede99b2c662087580966d31d18"},
		{"ffffff0ffcffff0ffcffff0ffcffff0f", "d0db52860a963a405deb8dc674527d769219b91a4aafc6e0991fb610f71af217", "04000000000000000000000000000000", "09ffffafe4fbffafe4fbffafe4fbffaf"},
		{"4ebd500e24a8ab0f70ab86044c325304", "09d961a15ec380e562febac91e44f069ddec9ba778388233b40926e85c9e9539", "04000000000000000000000000000000", "5f7035ee9a5d0858e0cd74b84875c582"},
		{"ffffff0ffcffff0ffcffff0ffcffff0f", "ac86a27a413127464675804a973757789f8b39f67977ce9f8ae0ee3a1b02463f", "05000000000000000000000000000000", "08ffffbfe0fbffbfe0fbffbfe0fbffbf"},
		{"c2244c0b14d8370b40023f0fd8c57c0f", "3bbe5e67f753e0e6f970812551c1d01cade4d118bfd0ae76d3a8433fe5a8b146", "05000000000000000000000000000000", "2c7bb6d3fb3476be0b5bf6f52f1e9f36"},
	} {
		key, data := join(unhex(t, c.r), half(0)), unhex(t, c.data)
		wantTag(t, fmt.Sprint("case ", i), key, data, c.want)
		wantTag(t, fmt.Sprint("case ", i, " and 7"), key, join(data, []byte{7}), c.behind)
	}
}

// TestSumRunsOver: P3.1: times 1, a piece and the key's second half, together, about 2^128 and beyond it.
func TestSumRunsOver(t *testing.T) {
	for _, c := range []struct{ piece, last, want string }{
		{"ffffffffffffffffffffffffffffffff", "00000000000000000000000000000000", "ffffffffffffffffffffffffffffffff"},
		{"ffffffffffffffffffffffffffffffff", "01000000000000000000000000000000", "00000000000000000000000000000000"},
		{"ffffffffffffffffffffffffffffffff", "02000000000000000000000000000000", "01000000000000000000000000000000"},
		{"ffffffffffffffffffffffffffffffff", "ffffffffffffffffffffffffffffffff", "feffffffffffffffffffffffffffffff"},
		{"00000000000000000000000000000000", "ffffffffffffffffffffffffffffffff", "ffffffffffffffffffffffffffffffff"},
		{"01000000000000000000000000000000", "ffffffffffffffffffffffffffffffff", "00000000000000000000000000000000"},
		{"01000000000000000000000000000000", "feffffffffffffffffffffffffffffff", "ffffffffffffffffffffffffffffffff"},
		{"00000000000000000100000000000000", "0000000000000000ffffffffffffffff", "00000000000000000000000000000000"},
		{"00000000000000000000000000000080", "00000000000000000000000000000080", "00000000000000000000000000000000"},
		{"ff000000000000000000000000000000", "01000000000000000000000000000000", "00010000000000000000000000000000"},
		{"ffffffffffffff00ff00000000000000", "01000000000000000100000000000000", "00000000000000010001000000000000"},
	} {
		key := join(half(1), unhex(t, c.last))
		wantTag(t, c.piece+" and "+c.last, key, unhex(t, c.piece), c.want)
		// a piece more of noughts is 2^128 more, which is above what a tag has of the number
		if c.piece[0] != 'f' {
			wantTag(t, c.piece+", noughts and "+c.last, key, join(unhex(t, c.piece), half(0)), c.want)
		}
	}
}
