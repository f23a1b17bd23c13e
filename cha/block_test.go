package cha_test

import (
	"bytes"
	"encoding/hex"
	"fmt"
	"math"
	"testing"

	"conclave/api"
	"conclave/cha"
)

// pattern: n bytes that differ from seed to seed.
func pattern(n, seed int) []byte {
	b := make([]byte, n)
	for i := range b {
		b[i] = byte((i*7 + seed*31 + 3) % 251)
	}
	return b
}

// unhex: the bytes of a text in base 16.
func unhex(t *testing.T, text string) []byte {
	t.Helper()
	b, err := hex.DecodeString(text)
	if err != nil {
		t.Fatal(err)
	}
	return b
}

// with: noughts, but for one byte.
func with(n, at int, x byte) []byte {
	b := make([]byte, n)
	b[at] = x
	return b
}

// wantBytes: a call that is not refused, and its answer.
func wantBytes(t *testing.T, what string, got []byte, e api.Errno, want string) {
	t.Helper()
	if e != api.OK || hex.EncodeToString(got) != want {
		t.Errorf("%s: %x, %d, want %s, 0", what, got, int(e), want)
	}
}

// wantRefused: a call that is refused, and answers nothing else.
func wantRefused(t *testing.T, what string, got []byte, e, want api.Errno) {
	t.Helper()
	if e != want || len(got) != 0 {
		t.Errorf("%s: %x, %d, want nothing, %d", what, got, int(e), int(want))
	}
}

// TestBlockExample: P2.2: the chapter's example.
func TestBlockExample(t *testing.T) {
	b, e := cha.Block(make([]byte, 32), 0, make([]byte, 12))
	if e != api.OK || len(b) != 64 || !bytes.HasPrefix(b, []byte{118, 184, 224, 173}) {
		t.Error(b, e)
	}
}

// TestBlockOfStandard: P2.2: the standard's own examples.
func TestBlockOfStandard(t *testing.T) {
	for i, c := range []struct {
		key     []byte
		counter int
		nonce   []byte
		want    string
	}{
		{make([]byte, 32), 0, make([]byte, 12), "76b8e0ada0f13d90405d6ae55386bd28bdd219b8a08ded1aa836efcc8b770dc7da41597c5157488d7724e03fb8d84a376a43b8f41518a11cc387b669b2ee6586"},
		{make([]byte, 32), 1, make([]byte, 12), "9f07e7be5551387a98ba977c732d080dcb0f29a048e3656912c6533e32ee7aed29b721769ce64e43d57133b074d839d531ed1f28510afb45ace10a1f4b794d6f"},
		{with(32, 31, 1), 1, make([]byte, 12), "3aeb5224ecf849929b9d828db1ced4dd832025e8018b8160b82284f3c949aa5a8eca00bbb4a73bdad192b5c42f73f2fd4e273644c8b36125a64addeb006c13a0"},
		{with(32, 1, 255), 2, make([]byte, 12), "72d54dfbf12ec44b362692df94137f328fea8da73990265ec1bbbea1ae9af0ca13b25aa26cb4a648cb9b9d1be65b2c0924a66c54d545ec1b7374f4872e99f096"},
		{make([]byte, 32), 0, with(12, 11, 2), "c2c64d378cd536374ae204b9ef933fcd1a8b2288b3dfa49672ab765b54ee27c78a970e0e955c14f3a88e741b97c286f75f8fc299e8148362fa198a39531bed6d"},
		{unhex(t, "000102030405060708090a0b0c0d0e0f101112131415161718191a1b1c1d1e1f"), 1, unhex(t, "000000090000004a00000000"), "10f1e7e4d13b5915500fdd1fa32071c4c7d1f4c733c068030422aa9ac3d46c4ed2826446079faa0914c2d705d98b02a2b5129cd1de164eb9cbd083e8a2503c4e"},
	} {
		got, e := cha.Block(c.key, c.counter, c.nonce)
		wantBytes(t, fmt.Sprint("example ", i), got, e, c.want)
	}
}

// TestBlockAtCounters: P2.2: counters of one byte and more, from 0 to MaxCounter.
func TestBlockAtCounters(t *testing.T) {
	for _, c := range []struct {
		counter int
		want    string
	}{
		{0, "a17b64c8be05d5026d618d9200637ad5525b83b4c217e535778c426827f85bbf9f034d41a473296363c6bfa6f00e1b29d7912295c8905bee943664fc6607a88e"},
		{1, "37d647b941a27d100d8958c4cd05d83bdfd47bae398c8218912421c02dfaf9fb606dbf704dd45abd3f9485457000b610ede229c5a3147ce4ffca94585e45d96f"},
		{255, "3bbcf153bcb0d4f5452b375071535ce3594d8a658701741bf124d15ff6bfe53c0a05b683672a00bd7193a0c7d549db201a203c085ab0560816a09a637d729de5"},
		{256, "3ea4c2efb462d4ff752f5f2193076fa4b1e039d570e81311604ff21de042b7690c2d547ed4bb9ca298aac6ecf485027625d70fb0b7d38d8a655c9a220c98861c"},
		{65535, "fb58a283de9bcd125944a39fead2a60e44aa46f144c47d024c78d42ac260238cabcd87e9926cf459592404b427fa9c70cbd0119fdcfe6923952f11b9158bcce9"},
		{65536, "2b41cce752e63f5bc854a916787e2c96497335907ef9db2f6358f6a4c13928ef613866b14c18e596674105e4f0639e15775b85af4f312f27a328004c734568d8"},
		{api.MaxCounter - 1, "889ec71c174791815bf7aaffcf6c58c40726baf2efeff71ca351c100e3948ce0e26bb16482e31110cdc2ab5ffa319be0e040e7120646f8f8869fbdb8a56832de"},
		{api.MaxCounter, "b8ae011073fe827f7d7dfea3b7c6c4b9d810f9489da147ce3cbf7aeb14e0ad0a10562713f8278fa0565e9e1f25fabfd7d483682025ef59d324438e4e081bb1f1"},
	} {
		got, e := cha.Block(pattern(32, 1), c.counter, pattern(12, 2))
		wantBytes(t, fmt.Sprint("counter ", c.counter), got, e, c.want)
	}
}

// TestBlockOfGreatWords: P2.2: each bit of the key and the nonce is set.
func TestBlockOfGreatWords(t *testing.T) {
	got, e := cha.Block(bytes.Repeat([]byte{255}, 32), api.MaxCounter, bytes.Repeat([]byte{255}, 12))
	wantBytes(t, "great words", got, e, "075de112a390c4886d7da8bd16459b1c46f37d1ad80bc7a5e7df70fcaecf995bf02cb5359b118f37c74834146ef3e686a8fa23a70d85de5362facf0e1c960647")
}

// TestBlockHangsOnAll: P2.2: any byte of the key or the nonce makes another block.
func TestBlockHangsOnAll(t *testing.T) {
	met := map[string]string{}
	meet := func(what string, key, nonce []byte) {
		b, e := cha.Block(key, 0, nonce)
		if e != api.OK || len(b) != 64 {
			t.Fatalf("%s: %x, %d", what, b, int(e))
		}
		if other, ok := met[string(b)]; ok {
			t.Errorf("%s has the same block as %s", what, other)
		}
		met[string(b)] = what
	}
	meet("noughts", make([]byte, 32), make([]byte, 12))
	for i := range 32 {
		meet(fmt.Sprint("key ", i), with(32, i, 1), make([]byte, 12))
	}
	for i := range 12 {
		meet(fmt.Sprint("nonce ", i), make([]byte, 32), with(12, i, 1))
	}
}

// wrongParts: what neither Block nor Mix takes, by what is wrong with it.
var wrongParts = []struct {
	key, counter, nonce int // two lengths, and the counter
	want                api.Errno
}{
	{0, 0, 12, api.ErrSize}, {1, 0, 12, api.ErrSize}, {16, 0, 12, api.ErrSize}, {31, 0, 12, api.ErrSize}, {33, 0, 12, api.ErrSize}, {64, 0, 12, api.ErrSize}, {5000, 0, 12, api.ErrSize},
	{32, 0, 0, api.ErrSize}, {32, 0, 1, api.ErrSize}, {32, 0, 8, api.ErrSize}, {32, 0, 11, api.ErrSize}, {32, 0, 13, api.ErrSize}, {32, 0, 24, api.ErrSize}, {32, 0, 5000, api.ErrSize},
	{12, 0, 32, api.ErrSize}, {0, 0, 0, api.ErrSize},
	{32, -1, 12, api.ErrRange}, {32, api.MaxCounter + 1, 12, api.ErrRange}, {32, math.MinInt, 12, api.ErrRange}, {32, math.MaxInt, 12, api.ErrRange},
	{32, 1 << 31, 12, api.ErrRange}, {32, 1 << 32, 12, api.ErrRange}, {32, -1 << 32, 12, api.ErrRange}, {32, 1<<32 + 5, 12, api.ErrRange},
	// of two errors the one that is named first
	{31, -1, 12, api.ErrSize}, {32, -1, 11, api.ErrSize}, {33, api.MaxCounter + 1, 12, api.ErrSize}, {32, api.MaxCounter + 1, 13, api.ErrSize},
}

// TestBlockRefuses: P2.2: wrong lengths, counters out of bounds, and both.
func TestBlockRefuses(t *testing.T) {
	for _, c := range wrongParts {
		got, e := cha.Block(pattern(c.key, 1), c.counter, pattern(c.nonce, 2))
		wantRefused(t, fmt.Sprint("key, counter, nonce ", c.key, c.counter, c.nonce), got, e, c.want)
	}
	got, e := cha.Block(nil, 0, nil)
	wantRefused(t, "nil", got, e, api.ErrSize)
}
