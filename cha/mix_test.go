package cha_test

import (
	"bytes"
	"encoding/hex"
	"fmt"
	"testing"

	"conclave/api"
	"conclave/cha"
	"conclave/sha"
)

// wantSum: a call that is not refused, and the digest of its answer.
func wantSum(t *testing.T, what string, got []byte, e api.Errno, want string) {
	t.Helper()
	sum, _ := sha.Sum(got)
	if e != api.OK || hex.EncodeToString(sum) != want {
		t.Errorf("%s: %d bytes with the digest %x, %d, want the digest %s, 0", what, len(got), sum, int(e), want)
	}
}

// TestMixOfStandard: P2.3: the standard's own examples.
func TestMixOfStandard(t *testing.T) {
	counted := unhex(t, "000102030405060708090a0b0c0d0e0f101112131415161718191a1b1c1d1e1f")
	got, e := cha.Mix(counted, 1, unhex(t, "000000000000004a00000000"), []byte("Ladies and Gentlemen of the class of '99: If I could offer you only one tip for the future, sunscreen would be it."))
	wantBytes(t, "sunscreen", got, e, "6e2e359a2568f98041ba0728dd0d6981e97e7aec1d4360c20a27afccfd9fae0bf91b65c5524733ab8f593dabcd62b3571639d624e65152ab8f530c359f0861d807ca0dbf500d6a6156a38e088a22b65e52bc514d16ccf806818ce91ab77937365af90bbf74a35be6b40b8eedf2785e42874d")
	drawn := unhex(t, "1c9240a5eb55d38af333888604f6b5f0473917c1402b80099dca5cbc207075c0")
	got, e = cha.Mix(drawn, 42, with(12, 11, 2), []byte("'Twas brillig, and the slithy toves\nDid gyre and gimble in the wabe:\nAll mimsy were the borogoves,\nAnd the mome raths outgrabe."))
	wantBytes(t, "brillig", got, e, "62e6347f95ed87a45ffae7426f27a1df5fb69110044c0d73118effa95b01e5cf166d3df2d721caf9b21e5fb14c616871fd84c54f9d65b283196c7fe4f60553ebf39c6402c42234e32a356b3e764312a61a5532055716ead6962568f87d3f3f7704c6a8d1bcd1bf4d50d6154b6da731b187b58dfd728afa36757a797ac188d1")
}

// TestMixAtFirstBlock: P2.3: up to a block's length and beyond it, each is the beginning of the longer one.
func TestMixAtFirstBlock(t *testing.T) {
	const want = "cb4873025091080fac2e571fe8e9308249acc2ef96dcd71b922fb5a159429144fc89b48f876862335f8a82e5a1f8a0925174e25cf41e52ce1ccd785df55a840e99c4"
	for n := range 67 {
		got, e := cha.Mix(pattern(32, 1), 7, pattern(12, 2), pattern(n, 3))
		wantBytes(t, fmt.Sprint(n, " bytes"), got, e, want[:2*n])
	}
}

// TestMixOfNothing: P2.3: no data at all.
func TestMixOfNothing(t *testing.T) {
	for _, data := range [][]byte{nil, {}} {
		for _, counter := range []int{0, 1, api.MaxCounter} {
			got, e := cha.Mix(pattern(32, 1), counter, pattern(12, 2), data)
			wantBytes(t, fmt.Sprint("counter ", counter), got, e, "")
		}
	}
}

// TestMixOfBlocks: P2.3: several blocks, up to MaxData bytes, and from MaxCounter on.
func TestMixOfBlocks(t *testing.T) {
	for _, c := range []struct {
		n, counter int
		want       string
	}{
		{127, 7, "86dd9bfaeae5063fee903a4a6b734eadf295d71d8684f16bab0d25a7d4835ead"},
		{128, 7, "cae29523e89654378e06865c541efe8c42d9b1be4d23adf9dd439d1024afe9ba"},
		{129, 7, "fe6a7848c0c89c377269b8dff07cd03b8e89aac306792ca673b3bdd3d54e9be5"},
		{1000, 7, "11d7180f0fa82182db6677e0a16ae36e11a406ded85bc92451341a9c5eed8805"},
		{1984, 7, "dbf91cf8f23f57df62036cb38590cf102879addb60b0946ee47bd5d867aa994f"},
		{1985, 7, "0f5901a35aa641132ada06116c81895de97668d77ec16a98021854e2198a4381"},
		{1999, 7, "647a3e070f0f4560c59cbf68f57c41724d96a953c4fb0dafa4a34dfe107128a0"},
		{api.MaxData, 7, "01498aaa9895c9c138c2618aaa855e1d261ff1a4dad984d7fa6ebad01d625418"},
		{64, 0, "4c98b1f7d560fd13d0c25ef92cd5bb5490aa6d88273c441bcb0923e1d6072229"},
		{65, 0, "5318c702f9444fd1da1433f495b652c838f4d2215b636a780fb84de656bf6e52"},
		{129, 0, "010dfdd99c2c6a08a7ef2e869625e0cc211118056f319dd268794cd301ee44a1"},
		{api.MaxData, 0, "5bf34ee9ea45a8e741729e60bd217c60be14db451a5791813fcb86b4a16f416d"},
		{64, api.MaxCounter - 1, "16681ba3ecd175dffa4c3b5749f4e5e3166f67af3ed045f714f4904320e46caa"},
		{65, api.MaxCounter - 1, "ea0b39f54ebc908e5c165ccf90cf2df2450caadb581405b7831e15fba5bf07a8"},
		{129, api.MaxCounter - 1, "5eb91ef419f6cdfd6dc162116b7e98c5571bf1910de5f0fb14b8dfe3591af2b6"},
		{api.MaxData, api.MaxCounter - 1, "b7a55ebb85f3af1eec94768c56c3cd4a22c19845a63e14ba5ab7f5479f4ccc05"},
		{64, api.MaxCounter, "299e86fe6b4778341e148838fc398529b6ea576b8578af412d0dc52a0da91c9d"},
		{65, api.MaxCounter, "f74bcc7c2373e965461228f8bc2ab9a51c75da15f69a7442a521b7c87f39d588"},
		{129, api.MaxCounter, "ce2c930e9b8563a7e18b37e95d2a366407ed4a7932ca168504f4b338cd551487"},
		{api.MaxData, api.MaxCounter, "bd65b38e09bd393e27acb86ad55680a86133c12b66489e8c72cf3e332e1110a0"},
	} {
		got, e := cha.Mix(pattern(32, 1), c.counter, pattern(12, 2), pattern(c.n, 3))
		wantSum(t, fmt.Sprint(c.n, " bytes from ", c.counter, " on"), got, e, c.want)
	}
}

// TestMixIsBlocks: P2.3: noughts, mixed, are the blocks one behind the other.
func TestMixIsBlocks(t *testing.T) {
	for _, counter := range []int{0, 1, 254, 65534, api.MaxCounter - 31} {
		var want []byte
		for i := range 32 {
			block, _ := cha.Block(pattern(32, 1), counter+i, pattern(12, 2))
			want = append(want, block...)
		}
		got, e := cha.Mix(pattern(32, 1), counter, pattern(12, 2), make([]byte, api.MaxData))
		wantBytes(t, fmt.Sprint("from ", counter, " on"), got, e, hex.EncodeToString(want[:api.MaxData]))
	}
}

// TestMixTwice: mixed twice is as it was.
func TestMixTwice(t *testing.T) {
	for _, n := range []int{0, 1, 63, 64, 65, 200, api.MaxData} {
		for _, counter := range []int{0, api.MaxCounter} {
			once, _ := cha.Mix(pattern(32, 4), counter, pattern(12, 5), pattern(n, 6))
			twice, e := cha.Mix(pattern(32, 4), counter, pattern(12, 5), once)
			if e != api.OK || !bytes.Equal(twice, pattern(n, 6)) {
				t.Errorf("%d bytes from %d on: %x, %d", n, counter, twice, int(e))
			}
		}
	}
}

// TestMixRefuses: P2.3: what Block refuses, with the same error, however long the data; and data that is too long.
func TestMixRefuses(t *testing.T) {
	for _, c := range wrongParts {
		for _, n := range []int{0, 10, api.MaxData, api.MaxData + 1} {
			got, e := cha.Mix(pattern(c.key, 1), c.counter, pattern(c.nonce, 2), pattern(n, 3))
			wantRefused(t, fmt.Sprint("key, counter, nonce, data ", c.key, c.counter, c.nonce, n), got, e, c.want)
		}
	}
	for _, n := range []int{api.MaxData + 1, 2048, 1 << 20} {
		for _, counter := range []int{0, api.MaxCounter} {
			got, e := cha.Mix(pattern(32, 1), counter, pattern(12, 2), make([]byte, n))
			wantRefused(t, fmt.Sprint(n, " bytes from ", counter, " on"), got, e, api.ErrSize)
		}
	}
}
