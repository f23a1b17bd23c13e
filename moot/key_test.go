package moot

import (
	"encoding/hex"
	"math"
	"testing"

	"conclave/api"
)

// keys of all clients, worked out apart from the program.
func keys() []string {
	return []string{
		"a43305a2afdf0717b1deb7428e24984e38e1545af03b2bb86ee82c4b1cc282a9",
		"3ef0989e430512d5a55fab530450cf3836fe56c060867396fa6557877146ec4a",
		"6216f1e79b701307fe5ccd2a15e9375e0155aa3e0d49e33a7013569d7d5b9b07",
		"3c93b20597d3619532f8475c028158bdd11c91c70b327a91f19528f41b34bba1",
		"68c920c9e507989b05d91ae7f7815e54002ec931f980e7f1aee72a5e33c3045e",
		"c2d38b933bc705d29eccf97326b6019f3a4b6ae21231293141bf04145daa93c3",
		"06dfdced1f2acb3cba82dc7b199d7a2cffe21423c700eddd41f790ea43ad982a",
		"128175d6363e6ba8aefd2b4739983c81153b3181c670ee3615f4a5cfcbef235e",
	}
}

const issuerKey = "b8aeaa2089ad4bf4e850c1bd37772af8747b5c8421bdeb802a25ac05e0e051c4"

// TestKeys: P12.1: the keys of all clients, from 0 to MaxClient.
func TestKeys(t *testing.T) {
	for client, want := range keys() {
		key, e := Key(client)
		if e != api.OK || hex.EncodeToString(key) != want {
			t.Errorf("the client %d: %x, %d, want %s, 0", client, key, int(e), want)
		}
	}
	if len(keys()) != api.MaxClient+1 {
		t.Errorf("%d keys are told", len(keys()))
	}
}

// TestKeyRefuses: P12.1: no client's numbers, those among them whose lowest byte is a client's.
func TestKeyRefuses(t *testing.T) {
	for _, client := range []int{-1, 8, 9, -8, 255, 256, 257, 1 << 32, math.MaxInt, math.MinInt} {
		key, e := Key(client)
		if e != api.ErrRange || len(key) != 0 {
			t.Errorf("the client %d: %x, %d", client, key, int(e))
		}
	}
}

// TestIssuer: P12.1: the key that tokens are granted under.
func TestIssuer(t *testing.T) {
	if key := hex.EncodeToString(Issuer()); key != issuerKey {
		t.Errorf("%s, want %s", key, issuerKey)
	}
}
