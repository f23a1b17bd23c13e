package sha_test

import (
	"encoding/hex"
	"fmt"
	"strings"
	"testing"

	"conclave/api"
	"conclave/sha"
)

// pattern: n bytes that differ from seed to seed.
func pattern(n, seed int) []byte {
	b := make([]byte, n)
	for i := range b {
		b[i] = byte((i*7 + seed*31 + 3) % 251)
	}
	return b
}

// wantBytes: a call that is not refused, and its answer.
func wantBytes(t *testing.T, what string, got []byte, e api.Errno, want string) {
	t.Helper()
	if e != api.OK || hex.EncodeToString(got) != want {
		t.Errorf("%s: %x, %d, want %s, 0", what, got, int(e), want)
	}
}

// wantSize: a call that is refused with ErrSize, and answers nothing else.
func wantSize(t *testing.T, what string, got []byte, e api.Errno) {
	t.Helper()
	if e != api.ErrSize || len(got) != 0 {
		t.Errorf("%s: %x, %d, want nothing, %d", what, got, int(e), int(api.ErrSize))
	}
}

// TestSumOfTexts: P1.1: the standard's own examples.
func TestSumOfTexts(t *testing.T) {
	for _, c := range []struct{ text, want string }{
		{"", "e3b0c44298fc1c149afbf4c8996fb92427ae41e4649b934ca495991b7852b855"},
		{"abc", "ba7816bf8f01cfea414140de5dae2223b00361a396177a9cb410ff61f20015ad"},
		{"abcdbcdecdefdefgefghfghighijhijkijkljklmklmnlmnomnopnopq", "248d6a61d20638b8e5c026930c3e6039a33ce45964ff2167f6ecedd419db06c1"},
		{strings.Repeat("\xff", 200), "d0f9b20e11b4dee02da0e8da52ebeda2c6f00792f241238819f2b280ad10ba33"},
	} {
		got, e := sha.Sum([]byte(c.text))
		wantBytes(t, c.text, got, e, c.want)
	}
}

// TestSumAtEdges: P1.1: lengths about the places where a block more is needed, and up to MaxData.
func TestSumAtEdges(t *testing.T) {
	for _, c := range []struct {
		n    int
		want string
	}{
		{0, "e3b0c44298fc1c149afbf4c8996fb92427ae41e4649b934ca495991b7852b855"},
		{1, "084fed08b978af4d7d196a7446a86b58009e636b611db16211b65a9aadff29c5"},
		{3, "6ab0dba1f4f1dfbb37b4f9eeb092c09fca4900ad32bdcd147d8dde35d6c87c35"},
		{4, "42a146d9caf95c0d29b3ea8e3574f3c47758bec2cdcb99e6f10381de77ab6d54"},
		{54, "c17917230c1e735a96829953f52db5339d0d82265e5699ee6451ae70ab0d559d"},
		{55, "1deace58c745f3ecadde68a5923f494c3703fa73f0306483ccb898a5826e8d70"},
		{56, "06dbe23685750e4d3881ded95047abaf93fa8f9c5d3501dc57c717a72ff1398e"},
		{57, "011f4bced20a249afb834d24b3e4eca31ad5ea2bdd1d8a1a564c2d2410398e69"},
		{62, "22b91ccd6321fa8ac3d35f1a9bd79c89151cf2487c9faed89d5c33a4de77d517"},
		{63, "47fb38b12335c9298d09280515c0666489a189d1554bb0ac1a0740806ce9d8b6"},
		{64, "dfa798724b1a8014994f363e5da7474ed26ce3757fb29e07aa47ad5a9352d37b"},
		{65, "dd2eab5a5507d7717c63ce953d9ac61752c21e664425ad1227054722a0d97f69"},
		{66, "1b9a7e55825188a1de571a493fe35522ea54152f001e20c2124b89c17e197208"},
		{119, "c6e0f435df5d7d265baacca31e0602c00aa22fa6d3819aed664649294c743756"},
		{120, "17eb8960823a644bde3065620bb9d45931fe8993fd8eb692a17aff0fd725db6a"},
		{127, "2409a159329f4e770a7d8128130497abb1de01ffb6ad389d97d89ebbeeb7f02c"},
		{128, "3a9c1e22e20578eebe442238f431befd688bd56698eb7c77d95d3f97d8f58207"},
		{129, "956f5da998f608be52587f28902b608909b661f99a1b300e3d3046b4f69f6fb5"},
		{1999, "7ccf54d3ba7ecf470275e2c7b2186a0e90eda4398737cedd76507ab4c8f53fc5"},
		{2000, "55384c31cb0f7eb9abb8e18719553b259f83c506083a7156e123ad613d43fbef"},
	} {
		got, e := sha.Sum(pattern(c.n, 0))
		wantBytes(t, fmt.Sprint("length ", c.n), got, e, c.want)
	}
	got, e := sha.Sum(nil)
	wantBytes(t, "nil", got, e, "e3b0c44298fc1c149afbf4c8996fb92427ae41e4649b934ca495991b7852b855")
}

// TestSumOfAllLengths: P1.1: the digests of all lengths that are taken, folded into one by Sum itself.
func TestSumOfAllLengths(t *testing.T) {
	so := make([]byte, 32)
	for n := range api.MaxData + 1 {
		got, e := sha.Sum(pattern(n, 0))
		if e != api.OK || len(got) != 32 {
			t.Fatalf("length %d: %x, %d", n, got, int(e))
		}
		so, _ = sha.Sum(append(so, got...))
	}
	wantBytes(t, "all lengths", so, api.OK, "f97e57bf8176406f2b1fede0dfc5c22f66c9a562cab16a4e3ed870f132f54fd5")
}

// TestSumRefuses: P1.1: what is beyond MaxData.
func TestSumRefuses(t *testing.T) {
	for _, n := range []int{api.MaxData + 1, api.MaxData + 64, 3 * api.MaxData} {
		got, e := sha.Sum(make([]byte, n))
		wantSize(t, fmt.Sprint("length ", n), got, e)
	}
}
