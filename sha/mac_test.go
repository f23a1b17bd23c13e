package sha_test

import (
	"bytes"
	"fmt"
	"strings"
	"testing"

	"conclave/api"
	"conclave/sha"
)

// TestMacOfStandard: P1.2: the examples of RFC 4231.
func TestMacOfStandard(t *testing.T) {
	for _, c := range []struct{ key, data, want string }{
		{strings.Repeat("\x0b", 20), "Hi There", "b0344c61d8db38535ca8afceaf0bf12b881dc200c9833da726e9376c2e32cff7"},
		{"Jefe", "what do ya want for nothing?", "5bdcc146bf60754e6a042426089575c75a003f089d2739839dec58b964ec3843"},
		{strings.Repeat("\xaa", 20), strings.Repeat("\xdd", 50), "773ea91e36800e46854db8ebd09181a72959098b3ef8c122d9635514ced565fe"},
		{strings.Repeat("\xaa", 131), "Test Using Larger Than Block-Size Key - Hash Key First", "60e431591ee0b67f0d8a26aacbf5b77f8e0bc6213728c5140546040f0ee37f54"},
		{strings.Repeat("\xaa", 131), "This is a test using a larger than block-size key and a larger than block-size data. The key needs to be hashed before being used by the HMAC algorithm.", "9b09ffa71b942fcb27635fbcd5b0e944bfdc63644f0713938a7f51535c3a35e2"},
	} {
		got, e := sha.Mac([]byte(c.key), []byte(c.data))
		wantBytes(t, c.data, got, e, c.want)
	}
}

// TestMacAtEdges: P1.2: keys about 64 bytes and up to MaxKey, data up to MaxData.
func TestMacAtEdges(t *testing.T) {
	for _, c := range []struct {
		key, data int
		want      string
	}{
		{0, 0, "b613679a0814d9ec772f95d778c35fc5ff1697c493715653c6c712144292c5ad"},
		{1, 0, "1a2cce0d37818c6aa9b25208f5653911b392d0417b1c29669165d3f8dd3d8f68"},
		{0, 1, "88497c42615aacdcb3b7da606e94a2d498dfa2fee241821b939c3e19590e853c"},
		{31, 32, "2d374086209d911dc23d3cc026c5ff2ad6f5b16d9424f2fd1e7f07a385c70b9a"},
		{32, 64, "f8ae459956ace41556cc98bb94473bea6eb69aa7fbb5c4a4eb32f55eec53d21e"},
		{63, 55, "a121951ff92cead62d1b89140509fa5af47eeebe1ef50aa7ba0b6cb0f8d54dcf"},
		{63, 56, "d0898af29c24a5fb0c251b40cd33ab6648f5fcf7929c8ec784b16f16651cd351"},
		{64, 63, "af6e4cf9d5c9f59c988b824c935ee8c3b110a4e82e005dccc8822d5ad71830f4"},
		{64, 64, "cf0a89fe97915e7ca86c883e4348cd6b1cb0e9bbb4443533245d8fd4d8c0b0d0"},
		{65, 0, "7d491b2c9b1b2a879c7ea96ea2fab03a5c3920f4da94ef96c0196a677afbf8dd"},
		{65, 65, "0b9bde2f0011644869ff03a10bf6fe24dd90c492d887cfe94f2d6440e9b6b659"},
		{66, 100, "4ba034a5e225c9bbe4d7d6901518a0adbce994cb0e1786011f28c3e04d2cdeb6"},
		{255, 1999, "20a970aa0d4c584665158116a6e0e0ed3fd9bdf83480c9b3cf1fcd6c5519b410"},
		{256, 2000, "abcbabeb0a2f1a55a91661ef3927c25a13e194491d6f147645083dc7fc198bcc"},
		{64, 2000, "f83ca84b3b5105ed733fa7706d1cbfd88b58d81557c1cc39661b941f07434b32"},
		{256, 0, "5150185b89ac5673f9cbfd0e5ab6bf22c5377362b8a345332b748055a903adff"},
	} {
		got, e := sha.Mac(pattern(c.key, 1), pattern(c.data, 2))
		wantBytes(t, fmt.Sprint("sizes ", c.key, " ", c.data), got, e, c.want)
	}
	got, e := sha.Mac(nil, nil)
	wantBytes(t, "nil", got, e, "b613679a0814d9ec772f95d778c35fc5ff1697c493715653c6c712144292c5ad")
}

// TestMacKeys: P1.2: noughts behind a key make it 64 bytes, and no more; a longer one is its digest.
func TestMacKeys(t *testing.T) {
	data := []byte("data")
	for _, n := range []int{0, 1, 32, 63} {
		short, _ := sha.Mac(pattern(n, 1), data)
		full, _ := sha.Mac(append(pattern(n, 1), make([]byte, 64-n)...), data)
		if !bytes.Equal(short, full) {
			t.Errorf("a key of %d bytes is not filled with noughts", n)
		}
		more, _ := sha.Mac(append(pattern(n, 1), make([]byte, 65-n)...), data)
		if bytes.Equal(short, more) {
			t.Errorf("a key of %d bytes is filled beyond 64", n)
		}
	}
	for _, n := range []int{65, 100, api.MaxKey} {
		sum, _ := sha.Sum(pattern(n, 1))
		long, _ := sha.Mac(pattern(n, 1), data)
		short, _ := sha.Mac(sum, data)
		if !bytes.Equal(long, short) {
			t.Errorf("a key of %d bytes is not its digest", n)
		}
	}
	sum, _ := sha.Sum(pattern(64, 1))
	long, _ := sha.Mac(pattern(64, 1), data)
	short, _ := sha.Mac(sum, data)
	if bytes.Equal(long, short) {
		t.Error("a key of 64 bytes is its digest")
	}
}

// TestMacRefuses: P1.2: what is beyond MaxKey or MaxData.
func TestMacRefuses(t *testing.T) {
	for _, c := range []struct{ key, data int }{
		{api.MaxKey + 1, 0},
		{api.MaxKey + 1, api.MaxData},
		{0, api.MaxData + 1},
		{api.MaxKey, api.MaxData + 1},
		{api.MaxKey + 1, api.MaxData + 1},
		{api.MaxData, 1},
	} {
		got, e := sha.Mac(make([]byte, c.key), make([]byte, c.data))
		wantSize(t, fmt.Sprint("sizes ", c.key, " ", c.data), got, e)
	}
}
