package order_test

import (
	"bytes"
	"fmt"
	"testing"

	"conclave/api"
	"conclave/order"
	"conclave/sha"
)

const (
	headSize  = 6
	tokenSize = 22
)

// granted: tokens and their bytes (a head and a tag), worked out apart from the program; the key is a pattern.
var granted = []struct {
	seed  int
	token api.Token
	bytes string
}{
	{1, api.Token{Client: 0, Rights: 0, Until: 0}, "000000000000" + "82e01da10fef0504f6449f8ad4382488"},
	{1, api.Token{Client: 1, Rights: 1, Until: 1}, "010100000001" + "dd9fdbda47f9403ba1111b5e47953ff4"},
	{1, api.Token{Client: 2, Rights: 2, Until: 255}, "0202000000ff" + "dfebe871532e9b7450a57ca133525389"},
	{1, api.Token{Client: 3, Rights: 3, Until: 256}, "030300000100" + "1e85d430100a3d6bb60dc6d4ba0f72d1"},
	{1, api.Token{Client: 4, Rights: 4, Until: 66051}, "040400010203" + "2d6faf62af3792e86f86325e018f5924"},
	{1, api.Token{Client: 5, Rights: 5, Until: 1048575}, "0505000fffff" + "6fdb12706af734aafae399d4c2c3a62d"},
	{1, api.Token{Client: 6, Rights: 6, Until: 1048576}, "060600100000" + "affebecd149bb74802459b536d6d59df"},
	{1, api.Token{Client: 7, Rights: 7, Until: 0}, "070700000000" + "798d3dee96c8185a9052e5616e34a028"},
	{2, api.Token{Client: 0, Rights: 0, Until: 0}, "000000000000" + "4ce1cfbe2878866f4356174fe6ea0258"},
	{2, api.Token{Client: 7, Rights: 7, Until: 1048576}, "070700100000" + "9f272de873e97e5b5ba000ab2f6392b4"},
	{3, api.Token{Client: 7, Rights: 0, Until: 1048575}, "0700000fffff" + "9afaf12be335bf874f0a1420cf5b6ea2"},
	{3, api.Token{Client: 1, Rights: 2, Until: 77}, "01020000004d" + "5be2487d2ef8bdc0454305f6d4587638"},
	{4, api.Token{Client: 6, Rights: 5, Until: 65536}, "060500010000" + "e9bdd457c92925b216d804f60a1f2347"},
}

// forged: heads that no token has, with right tags under the pattern 1, worked out apart from the program.
var forged = []string{
	"080000000000" + "324dc0366f2bf2186717ebd8ced0d7de",
	"ff0700000005" + "c2526977fad2480aac2c723911e37702",
	"030800000005" + "704140b9248f49ea2f3969f67f1a38ac",
	"03ff00000005" + "cba9fe95b9426a4df7bd5ba94b34151d",
	"000000100001" + "59a273c3b74e184bf8cff7dc30fc306f",
	"000080000000" + "32c8dff348c59efec27acb2e1f156823",
	"ffffffffffff" + "ed0a53f64c8f11f958473fd084581098",
}

// wrongKeys: lengths that no key has.
var wrongKeys = []int{0, 1, 16, 31, 33, 64, 65, 256, 257, 5000}

// withTag: a head and the tag that is right for it, whatever the head is.
func withTag(t *testing.T, key, head []byte) []byte {
	t.Helper()
	mac, e := sha.Mac(key, head)
	if e != api.OK {
		t.Fatalf("no Mac of %x: %d", head, int(e))
	}
	return join(head, mac[:16])
}

// rightTokens: tokens that may be: each set of rights, and all else at its bounds and beside them.
func rightTokens() []api.Token {
	var all []api.Token
	for client := range api.MaxClient + 1 {
		for rights := range 8 {
			for _, until := range []int{0, 1, 255, 256, 65535, 65536, api.MaxSlot - 1, api.MaxSlot} {
				all = append(all, api.Token{Client: client, Rights: rights, Until: until})
			}
		}
	}
	return all
}

// wrongTokens: tokens that may not be, by one number, by two, or by all.
func wrongTokens() []api.Token {
	all := []api.Token{
		{Client: 8}, {Client: 9}, {Client: 255}, {Client: 256}, {Client: 1 << 20},
		{Rights: 8}, {Rights: 9}, {Rights: 15}, {Rights: 16}, {Rights: 255}, {Rights: 256}, {Rights: 263},
		{Until: 1<<20 + 1}, {Until: 1<<20 + 2}, {Until: 1 << 21}, {Until: 1 << 30},
		{Client: 8, Rights: 8}, {Client: -1, Until: -1}, {Rights: 8, Until: 1<<20 + 1}, {Client: 8, Rights: 8, Until: 1<<20 + 1},
		{Client: 8, Rights: 7, Until: 1 << 20}, {Client: 7, Rights: 8, Until: 1 << 20}, {Client: 7, Rights: 7, Until: 1<<20 + 1},
	}
	for _, n := range far {
		all = append(all, api.Token{Client: n}, api.Token{Rights: n}, api.Token{Until: n}, api.Token{Client: n, Rights: n, Until: n})
	}
	return all
}

// grant of a call that is not refused.
func grant(t *testing.T, key []byte, token api.Token) []byte {
	t.Helper()
	b, e := order.Grant(key, token)
	if e != api.OK || len(b) != tokenSize {
		t.Fatalf("Grant of %v: %x, %d", token, b, int(e))
	}
	return b
}

// wantProved: these are the bytes of a token.
func wantProved(t *testing.T, key, b []byte, want api.Token) {
	t.Helper()
	if got, e := order.Prove(key, b); e != api.OK || got != want {
		t.Errorf("Prove of %x: %v, %d, want %v", b, got, int(e), want)
	}
}

// wantGrantRefused: no bytes come of it.
func wantGrantRefused(t *testing.T, key []byte, token api.Token, want api.Errno) {
	t.Helper()
	if b, e := order.Grant(key, token); e != want || len(b) != 0 {
		t.Errorf("Grant of %v under a key of %d: %x, %d, want nothing, %d", token, len(key), b, int(e), int(want))
	}
}

// wantProveRefused: no token comes of it.
func wantProveRefused(t *testing.T, what string, key, b []byte, want api.Errno) {
	t.Helper()
	if token, e := order.Prove(key, b); e != want || token != (api.Token{}) {
		t.Errorf("Prove of %s: %v, %d, want nothing, %d", what, token, int(e), int(want))
	}
}

// TestGrantOfExamples: P7.5: the bytes of tokens, of each set of rights.
func TestGrantOfExamples(t *testing.T) {
	for _, c := range granted {
		if b := grant(t, pattern(32, c.seed), c.token); !bytes.Equal(b, unhex(t, c.bytes)) {
			t.Errorf("%v: %x, want %s", c.token, b, c.bytes)
		}
	}
	zero := grant(t, make([]byte, 32), api.Token{})
	if want := unhex(t, "0000000000002afe27f6b8f1216f1db8bbfd5075d5b4"); !bytes.Equal(zero, want) {
		t.Errorf("nothing but noughts: %x, want %x", zero, want)
	}
	full := grant(t, bytes.Repeat([]byte{255}, 32), api.Token{Client: 7, Rights: 7, Until: api.MaxSlot})
	if want := unhex(t, "070700100000a5f13a1ff14e9ddfa44f5e694fd940b1"); !bytes.Equal(full, want) {
		t.Errorf("all at the most: %x, want %x", full, want)
	}
}

// TestProveOfExamples: P7.6: the tokens of bytes.
func TestProveOfExamples(t *testing.T) {
	for _, c := range granted {
		wantProved(t, pattern(32, c.seed), unhex(t, c.bytes), c.token)
	}
}

// TestGrantAndProve: P7.4, P7.5, P7.6: each token that may be is granted, has bytes of its own, and is proved.
func TestGrantAndProve(t *testing.T) {
	key := pattern(32, 5)
	met := map[string]api.Token{}
	for _, token := range rightTokens() {
		b := grant(t, key, token)
		if other, is := met[string(b)]; is {
			t.Errorf("%v and %v have the same bytes", token, other)
		}
		met[string(b)] = token
		wantProved(t, key, b, token)
	}
}

// TestGrantRefuses: P7.4, P7.5: tokens that may not be; keys of other lengths; and both, where the key is named first.
func TestGrantRefuses(t *testing.T) {
	for _, token := range wrongTokens() {
		wantGrantRefused(t, pattern(32, 1), token, api.ErrRange)
		for _, n := range wrongKeys {
			wantGrantRefused(t, pattern(n, 1), token, api.ErrSize)
		}
	}
	for _, c := range granted {
		for _, n := range wrongKeys {
			wantGrantRefused(t, pattern(n, c.seed), c.token, api.ErrSize)
		}
		wantGrantRefused(t, nil, c.token, api.ErrSize)
	}
}

// TestProveOfSizes: P7.6: keys and tokens of other lengths, whatever else is wrong.
func TestProveOfSizes(t *testing.T) {
	key := pattern(32, 1)
	right := unhex(t, granted[3].bytes)
	sizes := []int{0, 1, 6, 16, 20, 21, 23, 32, 44, 2000, 5000}
	for _, n := range sizes {
		b := append(bytes.Clone(right), make([]byte, 5000)...)[:n]
		wantProveRefused(t, fmt.Sprint(n, " bytes"), key, b, api.ErrSize)
		wantProveRefused(t, fmt.Sprint(n, " other bytes"), key, pattern(n, 2), api.ErrSize)
		for _, k := range wrongKeys {
			wantProveRefused(t, fmt.Sprint(n, " bytes under a key of ", k), pattern(k, 1), b, api.ErrSize)
		}
	}
	for _, k := range wrongKeys {
		what := fmt.Sprint(" under a key of ", k)
		wantProveRefused(t, "a token"+what, pattern(k, 1), right, api.ErrSize)
		wantProveRefused(t, "a changed token"+what, pattern(k, 1), changed(right, 100), api.ErrSize)
		wantProveRefused(t, "a forged token"+what, pattern(k, 1), unhex(t, forged[0]), api.ErrSize)
	}
	wantProveRefused(t, "a token under no key", nil, right, api.ErrSize)
	wantProveRefused(t, "nothing", key, nil, api.ErrSize)
	wantProveRefused(t, "nothing under no key", nil, nil, api.ErrSize)
}

// TestProveOfKeysOfOtherLength: P7.6: a tag that is right under such a key does not help.
func TestProveOfKeysOfOtherLength(t *testing.T) {
	head := []byte{3, 3, 0, 0, 1, 0}
	for _, k := range []int{0, 1, 16, 31, 33, 64, 65, 256} {
		key := pattern(k, 1)
		wantProveRefused(t, fmt.Sprint("a right tag under a key of ", k), key, withTag(t, key, head), api.ErrSize)
	}
	// Noughts behind a key do not change its Mac.
	short := make([]byte, 31)
	wantProveRefused(t, "a key without its last nought", short, grant(t, make([]byte, 32), api.Token{}), api.ErrSize)
}

// TestProveOfAnyBit: P7.6: a bit of the Client, the Rights, Until or the tag is another.
func TestProveOfAnyBit(t *testing.T) {
	for _, c := range granted {
		key, b := pattern(32, c.seed), unhex(t, c.bytes)
		for bit := range 8 * tokenSize {
			wantProveRefused(t, fmt.Sprint(c.token, ", the bit ", bit), key, changed(b, bit), api.ErrTag)
		}
		for bit := range 8 * 32 {
			wantProveRefused(t, fmt.Sprint(c.token, ", the key's bit ", bit), changed(key, bit), b, api.ErrTag)
		}
	}
}

// TestProveOfOthers: P7.6: parts of several tokens, tags of other lengths or places, and keys of others.
func TestProveOfOthers(t *testing.T) {
	key := pattern(32, 1)
	one, other := unhex(t, granted[1].bytes), unhex(t, granted[2].bytes)
	mac, _ := sha.Mac(key, one[:headSize])
	for what, b := range map[string][]byte{
		"noughts":                make([]byte, tokenSize),
		"255s":                   bytes.Repeat([]byte{255}, tokenSize),
		"the head of another":    join(other[:headSize], one[headSize:]),
		"the tag of another":     join(one[:headSize], other[headSize:]),
		"half the tag":           join(one[:14], make([]byte, 8)),
		"the Mac's last bytes":   join(one[:headSize], mac[16:]),
		"the tag ahead of it":    join(one[headSize:], one[:headSize]),
		"no tag":                 join(one[:headSize], make([]byte, 16)),
		"another's key":          unhex(t, granted[8].bytes),
		"Client and Rights swap": join([]byte{2, 1}, unhex(t, granted[11].bytes)[2:]),
	} {
		wantProveRefused(t, what, key, b, api.ErrTag)
	}
}

// TestProveOfForged: P7.4, P7.6: a right tag of what may not be; where the tag is wrong, too, that is named first.
func TestProveOfForged(t *testing.T) {
	key := pattern(32, 1)
	all := [][]byte{}
	for _, text := range forged {
		all = append(all, unhex(t, text))
	}
	for client := range 256 {
		for _, rights := range []int{0, 7, 8, 128, 255} {
			for _, until := range [][]byte{{0, 0, 0, 0}, {0, 16, 0, 0}, {0, 16, 0, 1}, {1, 0, 0, 0}, {128, 0, 0, 0}, {255, 255, 255, 255}} {
				mayBe := client <= 7 && rights <= 7 && bytes.Compare(until, []byte{0, 16, 0, 0}) <= 0
				if b := withTag(t, key, join([]byte{byte(client), byte(rights)}, until)); !mayBe {
					all = append(all, b)
				}
			}
		}
	}
	for _, b := range all {
		wantProveRefused(t, fmt.Sprintf("%x", b), key, b, api.ErrRange)
		wantProveRefused(t, fmt.Sprintf("%x, changed", b), key, changed(b, 8*tokenSize-1), api.ErrTag)
		wantProveRefused(t, fmt.Sprintf("%x, under another key", b), pattern(32, 2), b, api.ErrTag)
	}
}
