package poly_test

import (
	"bytes"
	"encoding/hex"
	"fmt"
	"testing"

	"conclave/api"
	"conclave/poly"
	"conclave/sha"
)

// mostData: the most bytes that have a tag.
const mostData = 2 * api.MaxData

// pattern: n bytes that differ from seed to seed.
func pattern(n, seed int) []byte {
	b := make([]byte, n)
	for i := range b {
		b[i] = byte((i*7 + seed*31 + 3) % 251)
	}
	return b
}

// full: n bytes in which each bit is set.
func full(n int) []byte { return bytes.Repeat([]byte{255}, n) }

// unhex: the bytes of a text in base 16.
func unhex(t *testing.T, text string) []byte {
	t.Helper()
	b, err := hex.DecodeString(text)
	if err != nil {
		t.Fatal(err)
	}
	return b
}

// half of a key: a small number, the lowest byte first.
func half(x byte) []byte {
	b := make([]byte, 16)
	b[0] = x
	return b
}

// join lists, in new memory.
func join(lists ...[]byte) []byte { return bytes.Join(lists, nil) }

// wantTag: a call that is not refused, and its answer in base 16.
func wantTag(t *testing.T, what string, key, data []byte, want string) {
	t.Helper()
	got, e := poly.Tag(key, data)
	if e != api.OK || hex.EncodeToString(got) != want {
		t.Errorf("%s: %x, %d, want %s, 0", what, got, int(e), want)
	}
}

// TestTagOfNothing: P3.1: the chapter's example: no data at all.
func TestTagOfNothing(t *testing.T) {
	for _, data := range [][]byte{nil, {}} {
		for _, key := range [][]byte{make([]byte, 32), full(32), pattern(32, 1), pattern(32, 7)} {
			wantTag(t, fmt.Sprintf("key %x", key), key, data, hex.EncodeToString(key[16:]))
		}
	}
}

// TestTagOfStandard: P3.1: the standard's own examples.
func TestTagOfStandard(t *testing.T) {
	const (
		contribution = `Any submission to the IETF intended by the Contributor for publication as all or part of an IETF Internet-Draft or RFC and any statement made within the context of an IETF activity is considered an "IETF Contribution". Such statements include oral statements in IETF sessions, as well as written and electronic communications made at any time or place, which are addressed to`
		brillig      = "'Twas brillig, and the slithy toves\nDid gyre and gimble in the wabe:\nAll mimsy were the borogoves,\nAnd the mome raths outgrabe."
	)
	none := make([]byte, 16)
	given := unhex(t, "36e5f6b5c5e06070f0efca96227a863e")
	for i, c := range []struct {
		key, data []byte
		want      string
	}{
		{unhex(t, "85d6be7857556d337f4452fe42d506a80103808afb0db2fd4abff6af4149f51b"), []byte("Cryptographic Forum Research Group"), "a8061dc1305136c6c22b8baf0c0127a9"},
		{make([]byte, 32), make([]byte, 64), "00000000000000000000000000000000"},
		{join(none, given), []byte(contribution), "36e5f6b5c5e06070f0efca96227a863e"},
		{join(given, none), []byte(contribution), "f3477e7cd95417af89a6b8794c310cf0"},
		{unhex(t, "1c9240a5eb55d38af333888604f6b5f0473917c1402b80099dca5cbc207075c0"), []byte(brillig), "4541669a7eaaee61e708dc7cbcc5eb62"},
		{join(half(2), none), full(16), "03000000000000000000000000000000"},
		{join(half(2), full(16)), half(2), "03000000000000000000000000000000"},
		{join(half(1), none), unhex(t, "fffffffffffffffffffffffffffffffff0ffffffffffffffffffffffffffffff11000000000000000000000000000000"), "05000000000000000000000000000000"},
		{join(half(1), none), unhex(t, "fffffffffffffffffffffffffffffffffbfefefefefefefefefefefefefefefe01010101010101010101010101010101"), "00000000000000000000000000000000"},
		{join(half(2), none), unhex(t, "fdffffffffffffffffffffffffffffff"), "faffffffffffffffffffffffffffffff"},
		{join(unhex(t, "01000000000000000400000000000000"), none), unhex(t, "e33594d7505e43b900000000000000003394d7505e4379cd01000000000000000000000000000000000000000000000001000000000000000000000000000000"), "14000000000000005500000000000000"},
		{join(unhex(t, "01000000000000000400000000000000"), none), unhex(t, "e33594d7505e43b900000000000000003394d7505e4379cd010000000000000000000000000000000000000000000000"), "13000000000000000000000000000000"},
	} {
		wantTag(t, fmt.Sprint("example ", i), c.key, c.data, c.want)
	}
}

// TestTagAtSizes: P3.1: about whole pieces, and up to twice MaxData.
func TestTagAtSizes(t *testing.T) {
	for _, c := range []struct {
		n    int
		want string
	}{
		{0, "9299a0a7aeb5bcc3cad1d8dfe6edf400"},
		{1, "6128d98938e89b4ccfaa5e0f7c6d21d7"},
		{2, "84c85ee345da6df56bbf7f0708bb911e"},
		{14, "55f5fd3df6a6c8abe90d0d7a9a9dd2f6"},
		{15, "abb7d807ede1fd1581d5bf84d2dd8d1b"},
		{16, "40f3d9af14b4550d3f3e0eef26dd32c5"},
		{17, "21f506689d9b80d0240d4257a1fa7132"},
		{18, "937b8bd3cfd09cd732a3f9f9ea0ec570"},
		{31, "a669e95a2812c9f661248f0d3ad8c385"},
		{32, "52b5098552e0e3710e7568f268ab97b1"},
		{33, "622c508bffc588da49a3d229f4127e7f"},
		{47, "869bcb1a2429767e52df087f14c777ef"},
		{48, "b23dda182bad5e1b3b454fdcde0e9801"},
		{49, "eb2c48432d312f64ad69de6645628d5b"},
		{100, "17246d661a57964c932e23dbd59452f4"},
		{1000, "560ad4ecc5c2fea70b8cbc2dbd1a4b0a"},
		{api.MaxData - 1, "76c7383212fa650494d940f81f36079c"},
		{api.MaxData, "5081549c6e3b09c977a2eb2d8b8639ec"},
		{api.MaxData + 1, "f2515b9e8179039f29228877e950e8d8"},
		{3983, "e94bc0ecd2b2a2835cc9ed45bf49dd71"},
		{3984, "6ccac56a3e1d9cb3b31fd744028cbacc"},
		{3985, "045566ef10942b1c16fd15682272c530"},
		{mostData - 1, "6a04ea5b5524020b7116a2fdae9ea449"},
		{mostData, "6dd9ddad9d44c95c0482f8748d55ce8a"},
	} {
		wantTag(t, fmt.Sprint(c.n, " bytes"), pattern(32, 1), pattern(c.n, 3), c.want)
	}
}

// TestTagOfFullBytes: P3.1: each bit of the key and the data is set.
func TestTagOfFullBytes(t *testing.T) {
	for _, c := range []struct {
		n    int
		want string
	}{
		{0, "ffffffffffffffffffffffffffffffff"},
		{1, "23feffef23f8ffef23f8ffef23f8ffef"},
		{15, "fbff27e6030028e6030028e6030028ee"},
		{16, "fbffff17faffff17faffff17faffff17"},
		{17, "7cfe7ff768f81f2763f8bf565df85f86"},
		{32, "5400801f3f00204f3900c07e330060ae"},
		{48, "5efc6a6b51fcec4c787c5075997c95e4"},
		{49, "b80de303eb57a8afe6a0efbcf1db7e89"},
		{mostData - 1, "5208d7c0f0cf4a549daabfb66f11ae95"},
		{mostData, "5208aff2e6cf228693aa97e8651186bf"},
	} {
		wantTag(t, fmt.Sprint(c.n, " bytes"), full(32), full(c.n), c.want)
	}
}

// TestTagsOfMany: P3.1: many keys and lengths, the tags one behind the other.
func TestTagsOfMany(t *testing.T) {
	var all []byte
	for i := range 125 {
		tag, e := poly.Tag(pattern(32, i), pattern(i*37%(mostData+1), i+1))
		if e != api.OK || len(tag) != 16 {
			t.Fatalf("%d: %x, %d", i, tag, int(e))
		}
		all = append(all, tag...)
	}
	sum, _ := sha.Sum(all)
	if got := hex.EncodeToString(sum); got != "062fdc9bc9cf79402d0b5a56221551bbc963175b08b2547eee4d42527ff8debc" {
		t.Errorf("the digest of all tags is %s", got)
	}
}

// TestTagTellsLengths: P3.1: noughts have another tag for each length, by the byte 1 behind them.
func TestTagTellsLengths(t *testing.T) {
	met := map[string]int{}
	for n := range 100 {
		tag, e := poly.Tag(pattern(32, 1), make([]byte, n))
		if e != api.OK {
			t.Fatal(n, int(e))
		}
		if other, ok := met[string(tag)]; ok {
			t.Errorf("%d noughts have the tag of %d", n, other)
		}
		met[string(tag)] = n
	}
}

// TestTagRefuses: P3.1: keys of another length, and data that is too long.
func TestTagRefuses(t *testing.T) {
	for _, c := range []struct{ key, data int }{
		{0, 0}, {1, 0}, {15, 16}, {16, 16}, {17, 16}, {31, 0}, {33, 0}, {48, 5}, {64, 100}, {5000, 10}, {31, mostData}, {33, mostData},
		{32, mostData + 1}, {32, mostData + 16}, {32, 4096}, {32, 1 << 20},
		{0, mostData + 1}, {31, mostData + 1}, {33, 1 << 20},
	} {
		got, e := poly.Tag(pattern(c.key, 1), make([]byte, c.data))
		if e != api.ErrSize || len(got) != 0 {
			t.Errorf("key, data %d, %d: %x, %d, want nothing, %d", c.key, c.data, got, int(e), int(api.ErrSize))
		}
	}
	if got, e := poly.Tag(nil, nil); e != api.ErrSize || len(got) != 0 {
		t.Errorf("nil: %x, %d", got, int(e))
	}
}
