package sha_test

import (
	"bytes"
	"fmt"
	"math"
	"strings"
	"testing"

	"conclave/api"
	"conclave/sha"
)

// span: the bytes from one to another.
func span(from, to int) []byte {
	var b []byte
	for x := from; x <= to; x++ {
		b = append(b, byte(x))
	}
	return b
}

// TestDrawOfStandard: P1.3: the examples of RFC 5869.
func TestDrawOfStandard(t *testing.T) {
	same := []byte(strings.Repeat("\x0b", 22))
	for _, c := range []struct {
		secret, salt, info []byte
		n                  int
		want               string
	}{
		{same, span(0, 0x0c), span(0xf0, 0xf9), 42, "3cb25f25faacd57a90434f64d0362f2a2d2d0a90cf1a5a4c5db02d56ecc4c5bf34007208d5b887185865"},
		{span(0, 0x4f), span(0x60, 0xaf), span(0xb0, 0xff), 82, "b11e398dc80327a1c8e7f78c596a49344f012eda2d4efad8a050cc4c19afa97c59045a99cac7827271cb41c65e590e09da3275600c2f09b8367793a9aca3db71cc30c58179ec3e87c14c01d5c1f3434f1d87"},
		{same, nil, nil, 42, "8da4e775a563c18f715f802a063c5a31b8a11f5c5ee1879ec3454e5f3c738d2d9d201395faa4b61a96c8"},
	} {
		got, e := sha.Draw(c.secret, c.salt, c.info, c.n)
		wantBytes(t, fmt.Sprint("n ", c.n), got, e, c.want)
	}
}

// TestDrawAtEdges: P1.3: sizes up to MaxKey, n about whole blocks and up to MaxOut (the digests of what is drawn).
func TestDrawAtEdges(t *testing.T) {
	for _, c := range []struct {
		secret, salt, info, n int
		want                  string
	}{
		{0, 0, 0, 1, "f8d20e598df20877e4d826246fc31ffb4615cbc059aec9ec8e5b28951d844a3f"},
		{0, 0, 0, 32, "e7c7b6e504d22f5cc2c005ad4da2aa09bab703d422193600fe5ca9aca2e6d540"},
		{1, 0, 0, 31, "c038c549d707adf6df73cf379912a32a480829574fae32d3a16d1c1b9075cc03"},
		{0, 1, 0, 32, "cbaf60667b4f9d06fa975bf245892559e6c1ef262437d3ebd3f39d9e5ddef9e4"},
		{0, 0, 1, 33, "2fa7eb8f232e35babd93145821330d5b27be333f78075cd0955c20beac9dbfbd"},
		{32, 63, 5, 63, "4f91ec59878eaf7e96a8020f2e0dfc620915768223b5f1d49327b0b453991dab"},
		{32, 64, 5, 64, "338cbed008079b5681976f6477cef50b13851bafad6afbd5a9b3124ce53d217a"},
		{32, 65, 5, 65, "7b61f887e6b81818b51e42efbce2916aedc7b1515c13feb0d10fdd64e6aaae54"},
		{64, 32, 55, 96, "964541c0b78dea6d94eb2a81edab2b0329ba25ee5198dcdccc469fe2cf590461"},
		{65, 32, 56, 100, "a35f63cdd238110545a9ea9f80936a78bf66841cecd8fac3ceeb10efdf4df659"},
		{255, 255, 255, 511, "07eb4408a288254ffc3dfebbe5182d91689f4fba647a99e8ff56daa52bc6a791"},
		{256, 256, 256, 512, "404273d5a65d3d399cc4c5ffe6221951816dbf81f66774101296cf4dfae1b6d1"},
	} {
		drawn, e := sha.Draw(pattern(c.secret, 1), pattern(c.salt, 2), pattern(c.info, 3), c.n)
		if len(drawn) != c.n {
			t.Errorf("%d bytes are drawn, want %d", len(drawn), c.n)
		}
		got, _ := sha.Sum(drawn)
		wantBytes(t, fmt.Sprint("sizes ", c.secret, " ", c.salt, " ", c.info, ", n ", c.n), got, e, c.want)
	}
}

// TestDrawBegins: P1.3: more bytes that are drawn begin with the fewer, from none up to MaxOut.
func TestDrawBegins(t *testing.T) {
	all, e := sha.Draw([]byte("secret"), []byte("salt"), []byte("info"), api.MaxOut)
	if e != api.OK || len(all) != api.MaxOut {
		t.Fatalf("%d bytes, %d", len(all), int(e))
	}
	for n := range api.MaxOut + 1 {
		got, e := sha.Draw([]byte("secret"), []byte("salt"), []byte("info"), n)
		if e != api.OK || !bytes.Equal(got, all[:n]) {
			t.Errorf("n %d: %x, %d", n, got, int(e))
		}
	}
}

// TestDrawRefuses: P1.3: what is beyond MaxKey, and n outside its bounds.
func TestDrawRefuses(t *testing.T) {
	for _, c := range []struct{ secret, salt, info, n int }{
		{api.MaxKey + 1, 0, 0, 32},
		{0, api.MaxKey + 1, 0, 32},
		{0, 0, api.MaxKey + 1, 32},
		{api.MaxKey + 1, api.MaxKey + 1, api.MaxKey + 1, 0},
		{api.MaxKey + 1, 0, 0, 0},
		{0, 0, 0, -1},
		{0, 0, 0, api.MaxOut + 1},
		{0, 0, 0, 255*32 + 1},
		{9, 9, 9, math.MinInt},
		{9, 9, 9, math.MaxInt},
	} {
		got, e := sha.Draw(make([]byte, c.secret), make([]byte, c.salt), make([]byte, c.info), c.n)
		wantSize(t, fmt.Sprint("sizes ", c.secret, " ", c.salt, " ", c.info, ", n ", c.n), got, e)
	}
}
