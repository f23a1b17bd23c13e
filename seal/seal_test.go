package seal_test

import (
	"bytes"
	"encoding/hex"
	"fmt"
	"testing"

	"conclave/api"
	"conclave/cha"
	"conclave/poly"
	"conclave/seal"
	"conclave/sha"
)

// tagSize: so many bytes are behind what is sealed.
const tagSize = 16

// pattern: n bytes that differ from seed to seed.
func pattern(n, seed int) []byte {
	b := make([]byte, n)
	for i := range b {
		b[i] = byte((i*7 + seed*31 + 3) % 251)
	}
	return b
}

// full: n bytes in which each bit is set.
func full(n int) []byte { return bytes.Repeat([]byte{255}, n) }

// join lists, in new memory.
func join(lists ...[]byte) []byte { return bytes.Join(lists, nil) }

// unhex: the bytes of a text in base 16.
func unhex(t *testing.T, text string) []byte {
	t.Helper()
	b, err := hex.DecodeString(text)
	if err != nil {
		t.Fatal(err)
	}
	return b
}

// sealed: what is sealed, and its tag, of a call that is not refused.
func sealed(t *testing.T, key, nonce, known, plain []byte) (data, tag []byte) {
	t.Helper()
	got, e := seal.Seal(key, nonce, known, plain)
	if e != api.OK || len(got) != len(plain)+tagSize {
		t.Fatalf("%d known, %d plain: %x, %d", len(known), len(plain), got, int(e))
	}
	return got[:len(plain)], got[len(plain):]
}

// wantBytes: a call that is not refused, and its answer.
func wantBytes(t *testing.T, what string, got []byte, e api.Errno, want string) {
	t.Helper()
	if e != api.OK || hex.EncodeToString(got) != want {
		t.Errorf("%s: %x, %d, want %s, 0", what, got, int(e), want)
	}
}

// wantRefused: a call that is refused, and answers nothing else.
func wantRefused(t *testing.T, what string, got []byte, e, want api.Errno) {
	t.Helper()
	if e != want || len(got) != 0 {
		t.Errorf("%s: %x, %d, want nothing, %d", what, got, int(e), int(want))
	}
}

// TestStandard: P4.1, P4.2, P4.3: the standard's own examples, sealed and opened.
func TestStandard(t *testing.T) {
	for i, c := range []struct{ key, nonce, known, plain, want string }{
		{
			"808182838485868788898a8b8c8d8e8f909192939495969798999a9b9c9d9e9f", "070000004041424344454647", "50515253c0c1c2c3c4c5c6c7",
			"Ladies and Gentlemen of the class of '99: If I could offer you only one tip for the future, sunscreen would be it.",
			"d31a8d34648e60db7b86afbc53ef7ec2a4aded51296e08fea9e2b5a736ee62d63dbea45e8ca9671282fafb69da92728b1a71de0a9e060b2905d6a5b67ecd3b3692ddbd7f2d778b8c9803aee328091b58fab324e4fad675945585808b4831d7bc3ff4def08e4b7a9de576d26586cec64b6116" + "1ae10b594f09e26a7e902ecbd0600691",
		},
		{
			"1c9240a5eb55d38af333888604f6b5f0473917c1402b80099dca5cbc207075c0", "000000000102030405060708", "f33388860000000000004e91",
			"Internet-Drafts are draft documents valid for a maximum of six months and may be updated, replaced, or obsoleted by other documents at any time. It is inappropriate to use Internet-Drafts as reference material or to cite them other than as /\u201cwork in progress./\u201d",
			"64a0861575861af460f062c79be643bd5e805cfd345cf389f108670ac76c8cb24c6cfc18755d43eea09ee94e382d26b0bdb7b73c321b0100d4f03b7f355894cf332f830e710b97ce98c8a84abd0b948114ad176e008d33bd60f982b1ff37c8559797a06ef4f0ef61c186324e2b3506383606907b6a7c02b0f9f6157b53c867e4b9166c767b804d46a59b5216cde7a4e99040c5a40433225ee282a1b0a06c523eaf4534d7f83fa1155b0047718cbc546a0d072b04b3564eea1b422273f548271a0bb2316053fa76991955ebd63159434ecebb4e466dae5a1073a6727627097a1049e617d91d361094fa68f0ff77987130305beaba2eda04df997b714d6c6f2c29a6ad5cb4022b02709b" + "eead9d67890cbb22392336fea1851f38",
		},
	} {
		key, nonce, known := unhex(t, c.key), unhex(t, c.nonce), unhex(t, c.known)
		got, e := seal.Seal(key, nonce, known, []byte(c.plain))
		wantBytes(t, fmt.Sprint("Seal, example ", i), got, e, c.want)
		back, e := seal.Open(key, nonce, known, unhex(t, c.want))
		wantBytes(t, fmt.Sprint("Open, example ", i), back, e, hex.EncodeToString([]byte(c.plain)))
	}
}

// TestSealOfNothing: P4.1, P4.2: nothing known and nothing plain: a tag alone.
func TestSealOfNothing(t *testing.T) {
	for _, nothing := range [][]byte{nil, {}} {
		for _, c := range []struct {
			key, nonce []byte
			want       string
		}{
			{make([]byte, 32), make([]byte, 12), "4eb972c9a8fb3a1b382bb4d36f5ffad1"},
			{pattern(32, 1), pattern(12, 2), "daf500bfed5e6f393e46736be7f334c6"},
			{full(32), full(12), "0b5528ab3ff425fbf1fce9fcfb979029"},
		} {
			got, e := seal.Seal(c.key, c.nonce, nothing, nothing)
			wantBytes(t, fmt.Sprintf("Seal under %x", c.key), got, e, c.want)
			back, e := seal.Open(c.key, c.nonce, nothing, got)
			wantBytes(t, fmt.Sprintf("Open under %x", c.key), back, e, "")
		}
	}
}

// TestTagAtSizes: P4.1: the tags about whole pieces of what is known and of what is plain, and up to MaxKey and MaxData.
func TestTagAtSizes(t *testing.T) {
	for _, c := range []struct {
		known, plain int
		want         string
	}{
		{0, 0, "daf500bfed5e6f393e46736be7f334c6"},
		{1, 0, "d8145e940a68601093af776dea5d6fd2"},
		{15, 0, "b7626111a59ee55724a0fbab1f8e8e87"},
		{16, 0, "a0f55d8aceb8b06f3d031924fa5bc95a"},
		{17, 0, "c23bcca69a6114a046bacaef420d2ed4"},
		{api.MaxKey, 0, "5813e463ab3758b770efe667fea5641b"},
		{0, 1, "ed5ab45fed83961e2f0a699484e20128"},
		{0, 15, "057b8285a74e8ab697f3465d29f61de8"},
		{0, 16, "ef20aa23292f26b2b118d14549d527bd"},
		{0, 17, "8951e8675ebfc4a525255abb3929cd0f"},
		{15, 15, "cdf5ed61ac4b30c3b2d876a2a8e6a278"},
		{15, 16, "b79b15002e2cccbeccfd008bc8c5ac4d"},
		{15, 17, "d610f3a5d550f49a3be6c4a66c409a78"},
		{16, 15, "55eb3f4674e5fd95384cb0a2bcea4547"},
		{16, 16, "3f9167e4f5c5999152713a8bdcc94f1c"},
		{16, 17, "7145da366e10ad7157102c689e836701"},
		{17, 15, "9c80e8c2bc9c74c0fadd7b222acdc98a"},
		{17, 16, "862610613e7d10bc1403060b4aacd35f"},
		{17, 17, "16fcb3fa1943881c446995e6f1a71e83"},
		{1, 1, "951d8a4404ff8e315a87df6d66c81b71"},
		{12, 114, "b21ec772fed5bf9262a7ff497458fcfc"},
		{31, 33, "583ba6ddc935628cc05ad16420476b9e"},
		{32, 32, "598e029dafd88dcc029b270f963b0aa2"},
		{33, 31, "ad28d09d204da7a7a00ae986b4dee669"},
		{100, 63, "2ffb33dc4acc10265dd13e011ac015cb"},
		{100, 64, "246d35eef0903138a5ae149a1d41f922"},
		{100, 65, "5dbb6e0ebdebef8e4829a1b59d7d7a37"},
		{255, 255, "da8c8c1aeed2eb9f1978ef2ae34cf4c0"},
		{255, 256, "59ab12834356d93232b66e19c1130607"},
		{api.MaxKey, 255, "72940d605061df5278c26e8ba8475b2f"},
		{api.MaxKey, 256, "ecb293c8a5e4cce59000ee79860e6d75"},
		{api.MaxKey, 257, "73c23bd4fb7f5a784b6be4b5e198b097"},
		{255, 1999, "cb4f878b0bc2b68ca95f45925602687d"},
		{api.MaxKey, 1999, "bff1d0c90c960011f1aca4d0782fd978"},
		{0, api.MaxData, "c68d5831b6f03f109e2fe091c6a9da0e"},
		{15, api.MaxData, "4554f14cfef00fdf7f23f2acd69e3ddb"},
		{255, api.MaxData, "bad83c098bad8a0fa8710f367900b4c5"},
		{api.MaxKey, api.MaxData, "ae7a86478c81d493efbe6e749b2d25c1"},
	} {
		_, tag := sealed(t, pattern(32, 1), pattern(12, 2), pattern(c.known, 4), pattern(c.plain, 3))
		wantBytes(t, fmt.Sprint(c.known, " known, ", c.plain, " plain"), tag, api.OK, c.want)
	}
}

// TestTagOfFullBytes: P4.1: each bit of all that is handed in is set.
func TestTagOfFullBytes(t *testing.T) {
	for _, c := range []struct {
		known, plain int
		want         string
	}{
		{16, 16, "d8ae4f8a6eb98f32471e5fcb147b5e40"},
		{api.MaxKey, api.MaxData, "35c7e6de70538ffa162bf2f9bc4928f5"},
	} {
		data, tag := sealed(t, full(32), full(12), full(c.known), full(c.plain))
		wantBytes(t, fmt.Sprint(c.known, " known, ", c.plain, " plain"), tag, api.OK, c.want)
		wantBytes(t, "what is sealed", data[:16], api.OK, "22d8bfc313e141bd692c82cec7785b29")
	}
}

// TestTagsOfMany: P4.1: many keys, nonces and lengths, the tags one behind the other.
func TestTagsOfMany(t *testing.T) {
	var all []byte
	for i := range 125 {
		_, tag := sealed(t, pattern(32, i), pattern(12, i+1), pattern(i*29%(api.MaxKey+1), i+2), pattern(i*331%(api.MaxData+1), i+3))
		all = append(all, tag...)
	}
	sum, e := sha.Sum(all)
	wantBytes(t, "the digest of all tags", sum, e, "b20b3cfd655be110b88e038ad45cd23758819b786c5ff7e9b2e9bc6f23914a09")
}

// TestTagByLayers: P4.1: at each pair of lengths the tag is what the layers below make of the bytes laid by hand.
func TestTagByLayers(t *testing.T) {
	key, nonce := pattern(32, 8), pattern(12, 9)
	block, _ := cha.Block(key, 0, nonce)
	for k := range 35 {
		for n := range 35 {
			known := pattern(k, 6)
			data, tag := sealed(t, key, nonce, known, pattern(n, 7))
			of := join(known, make([]byte, (16-k%16)%16), data, make([]byte, (16-n%16)%16),
				[]byte{byte(k), 0, 0, 0, 0, 0, 0, 0, byte(n), 0, 0, 0, 0, 0, 0, 0})
			want, e := poly.Tag(block[:32], of)
			wantBytes(t, fmt.Sprint(k, " known, ", n, " plain"), tag, e, hex.EncodeToString(want))
		}
	}
}

// TestTagTellsLengths: P4.1: noughts have another tag for each pair of lengths, though they are filled up with noughts.
func TestTagTellsLengths(t *testing.T) {
	key, nonce := pattern(32, 1), pattern(12, 2)
	stream, _ := cha.Mix(key, 1, nonce, make([]byte, 40)) // sealed, it comes to noughts
	met := map[string]string{}
	for k := range 40 {
		for n := range 40 {
			data, tag := sealed(t, key, nonce, make([]byte, k), stream[:n])
			if !bytes.Equal(data, make([]byte, n)) {
				t.Fatalf("%d plain: %x", n, data)
			}
			here := fmt.Sprint(k, " known, ", n, " sealed")
			if other, ok := met[string(tag)]; ok {
				t.Errorf("%s have the tag of %s", here, other)
			}
			met[string(tag)] = here
		}
	}
}

// TestSealedAtFirstBlock: P4.2: up to a block's length and beyond it, each is the beginning of the longer one, whatever is known.
func TestSealedAtFirstBlock(t *testing.T) {
	const want = "57b129cc3d21f7819516fe6979be1af20f03a54bd57f781e9c303ae204cacec52521ec2a2cbc35cb42100ed7e9a011be585eea0f72cca302123e945f5050c54c50b1"
	for n := range 67 {
		for _, known := range []int{0, 5, api.MaxKey} {
			data, _ := sealed(t, pattern(32, 1), pattern(12, 2), pattern(known, 4), pattern(n, 3))
			wantBytes(t, fmt.Sprint(known, " known, ", n, " plain"), data, api.OK, want[:2*n])
		}
	}
}

// TestSealedOfMaxData: P4.2: as many bytes as may be plain.
func TestSealedOfMaxData(t *testing.T) {
	for _, known := range []int{0, 17, api.MaxKey} {
		data, _ := sealed(t, pattern(32, 1), pattern(12, 2), pattern(known, 4), pattern(api.MaxData, 3))
		sum, e := sha.Sum(data)
		wantBytes(t, fmt.Sprint(known, " known"), sum, e, "4d36868e7fb16af63a8eca39102f7a63c213093f7dd88983d9d7ea5bcb16dc79")
	}
}

// TestSealedIsMixed: P4.2: what is sealed is mixed from the counter 1 on.
func TestSealedIsMixed(t *testing.T) {
	for _, n := range []int{0, 1, 15, 16, 17, 63, 64, 65, 127, 128, 129, 1000, api.MaxData} {
		want, e := cha.Mix(pattern(32, 5), 1, pattern(12, 6), pattern(n, 7))
		data, _ := sealed(t, pattern(32, 5), pattern(12, 6), pattern(20, 8), pattern(n, 7))
		wantBytes(t, fmt.Sprint(n, " plain"), data, e, hex.EncodeToString(want))
	}
}

// wrongParts: lengths of the key, the nonce and what is known that are refused, whatever else is handed in.
var wrongParts = []struct{ key, nonce, known int }{
	{0, 12, 0}, {1, 12, 0}, {16, 12, 5}, {31, 12, 0}, {33, 12, 0}, {64, 12, 5}, {5000, 12, 5},
	{32, 0, 0}, {32, 1, 5}, {32, 8, 0}, {32, 11, 0}, {32, 13, 0}, {32, 16, 5}, {32, 24, 0}, {32, 5000, 0},
	{32, 12, api.MaxKey + 1}, {32, 12, api.MaxKey + 16}, {32, 12, api.MaxData}, {32, 12, 1 << 20},
	{31, 11, 0}, {12, 32, 0}, {0, 12, api.MaxKey + 1}, {32, 13, api.MaxKey + 1}, {33, 11, api.MaxKey + 1}, {0, 0, 0},
}

// TestSealRefuses: P4.2: lengths of the key, the nonce, what is known and what is plain, one alone and several at once.
func TestSealRefuses(t *testing.T) {
	for _, c := range wrongParts {
		for _, n := range []int{0, 10, api.MaxData, api.MaxData + 1} {
			got, e := seal.Seal(pattern(c.key, 1), pattern(c.nonce, 2), pattern(c.known, 4), pattern(n, 3))
			wantRefused(t, fmt.Sprint("key, nonce, known, plain ", c.key, c.nonce, c.known, n), got, e, api.ErrSize)
		}
	}
	for _, n := range []int{api.MaxData + 1, api.MaxData + tagSize, api.MaxData + tagSize + 1, 2 * api.MaxData, 1 << 20} {
		for _, known := range []int{0, api.MaxKey} {
			got, e := seal.Seal(pattern(32, 1), pattern(12, 2), pattern(known, 4), make([]byte, n))
			wantRefused(t, fmt.Sprint(known, " known, ", n, " plain"), got, e, api.ErrSize)
		}
	}
	got, e := seal.Seal(nil, nil, nil, nil)
	wantRefused(t, "nil", got, e, api.ErrSize)
}
