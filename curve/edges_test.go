package curve_test

import (
	"encoding/hex"
	"fmt"
	"testing"

	"conclave/api"
	"conclave/curve"
)

// zeroPoints: those with which noughts come of every secret: 0, 1, two others, p - 1, p and p + 1.
var zeroPoints = []string{
	"0000000000000000000000000000000000000000000000000000000000000000",
	"0100000000000000000000000000000000000000000000000000000000000000",
	"e0eb7a7c3b41b8ae1656e3faf19fc46ada098deb9c32b1fd866205165f49b800",
	"5f9c95bca3508c24b1d0b1559c83ef5b04445cc4581c8e86d8224eddd09f1157",
	"ecffffffffffffffffffffffffffffffffffffffffffffffffffffffffffff7f",
	"edffffffffffffffffffffffffffffffffffffffffffffffffffffffffffff7f",
	"eeffffffffffffffffffffffffffffffffffffffffffffffffffffffffffff7f",
}

// TestRefusesZero: P5.2: such points, with the highest bit set and without.
func TestRefusesZero(t *testing.T) {
	secrets := [][]byte{make([]byte, 32), full(32), small(1), small(9), pattern(32, 1), pattern(32, 2)}
	for _, text := range zeroPoints {
		point := unhex(t, text)
		for _, secret := range secrets {
			got, e := curve.Shared(secret, point)
			wantRefused(t, fmt.Sprintf("%x and %x", secret, point), got, e, api.ErrZero)
			got, e = curve.Shared(secret, turned(point, 255))
			wantRefused(t, fmt.Sprintf("%x and %x, its highest bit set", secret, point), got, e, api.ErrZero)
		}
	}
}

// TestRefusesSizeFirst: P5.2: such a point, and a wrong length of the secret or of the point too.
func TestRefusesSizeFirst(t *testing.T) {
	for _, text := range zeroPoints {
		point := unhex(t, text)
		for _, k := range []int{0, 31, 33, 64} {
			got, e := curve.Shared(pattern(k, 1), point)
			wantRefused(t, fmt.Sprintf("secret of %d and %x", k, point), got, e, api.ErrSize)
		}
		for _, other := range [][]byte{point[:31], append(point, 0)} {
			got, e := curve.Shared(pattern(32, 1), other)
			wantRefused(t, fmt.Sprintf("%x", other), got, e, api.ErrSize)
		}
	}
}

// TestBesideZero: P5.2: the numbers beside those are not refused.
func TestBesideZero(t *testing.T) {
	for _, c := range []struct{ point, want string }{
		{"0200000000000000000000000000000000000000000000000000000000000000", "e8e3a312d0ef6110e0b559df8c67393c3482de207e83be10b78135efb73e6f07"},
		{"dfeb7a7c3b41b8ae1656e3faf19fc46ada098deb9c32b1fd866205165f49b800", "f0f50ec63110575b138733eb65305c75c6d5742c88fd1f5a4804b6abc2ae6c24"},
		{"e1eb7a7c3b41b8ae1656e3faf19fc46ada098deb9c32b1fd866205165f49b800", "f8e707c9f8cd0cb5265d7bf117f7790fce19b76ed0b8cd8cd1a6b99d0d6ddc1c"},
		{"5e9c95bca3508c24b1d0b1559c83ef5b04445cc4581c8e86d8224eddd09f1157", "a2b83d62b2b4be03e57b585a897b0237e616eed4142dfc1bef5273afaddcf917"},
		{"609c95bca3508c24b1d0b1559c83ef5b04445cc4581c8e86d8224eddd09f1157", "b34ab790019dedfaba4bce0f89720639c62b06e6e83d38aa289f20a29ddf8f7c"},
		{"ebffffffffffffffffffffffffffffffffffffffffffffffffffffffffffff7f", "8939343a640794523484c798849dd4e2a9dece10459ef243946e3f3b106bc461"},
		{"eaffffffffffffffffffffffffffffffffffffffffffffffffffffffffffff7f", "2344224b83874cec47a2920c706330429f20f267894aa49b936ac151e39c9944"},
		{"efffffffffffffffffffffffffffffffffffffffffffffffffffffffffffff7f", "e8e3a312d0ef6110e0b559df8c67393c3482de207e83be10b78135efb73e6f07"},
	} {
		wantShared(t, pattern(32, 1), unhex(t, c.point), c.want)
		wantShared(t, pattern(32, 1), turned(unhex(t, c.point), 255), c.want)
	}
}

// TestPointsBeyondModulus: P5.1: each number from p on, up to the greatest below 2^255, is taken as what it is modulo p.
func TestPointsBeyondModulus(t *testing.T) {
	for n := byte(2); n < 19; n++ {
		for _, secret := range [][]byte{make([]byte, 32), full(32), pattern(32, 1)} {
			want := hex.EncodeToString(shared(t, secret, small(n)))
			wantShared(t, secret, beyond(0xed+n), want)
			wantShared(t, secret, turned(beyond(0xed+n), 255), want)
		}
	}
}

// TestFullPoint: P5.1: every bit of a point is set, and it is 2^255 - 1 then.
func TestFullPoint(t *testing.T) {
	for _, c := range []struct {
		secret []byte
		want   string
	}{
		{make([]byte, 32), "b32d1362c248d62fe62619cff04dd43db73ffc1b6308ede30b78d87380f1e834"},
		{full(32), "96186d56afdbfeda62f0d07168fa8b142b3d8530e9705fd818cfd33591ea927f"},
		{pattern(32, 1), "559492d0bea206585268734f7383e6cf144807379751ff36624f4037e9de3a47"},
	} {
		wantShared(t, c.secret, full(32), c.want)
		wantShared(t, c.secret, beyond(255), c.want)
		wantShared(t, c.secret, small(18), c.want)
	}
}

// TestPointsAtLimits: P5.2: points with one bit alone, or with none but high or low ones.
func TestPointsAtLimits(t *testing.T) {
	for _, c := range []struct{ point, noughts, full string }{
		{"0000000000000000000000000000000000000000000000000000000000000040", "543c21a42729e17049b8d47f7be09a1cc39adf120f2a09bb8ca1c54d383e2407", "40dc9d321aa09355716aa4642d60bcc89b6c60af91c816e887ef344dcac69c1e"},
		{"ffffffffffffffffffffffffffffffffffffffffffffffffffffffffffffff3f", "6dc6de4bdbefc6582100c2b3dcc8c336b6d8e29ad04a68972447b5ab8f244178", "8091567d00385ae3e2554196809e9f8a66bb338126053f62f5cef65649d99e44"},
		{"0000000000000000000000000000000001000000000000000000000000000000", "d930a6d80e1ac82bdaa6b4cb579f085b9c53e9a81231ea4b0b66dc1d7fbefa40", "9c82b457d344dbff4992efcfb2ee1ed23b9270e34e8a3feb131c24500d29ce30"},
		{"ffff000000000000000000000000000000000000000000000000000000000000", "d7df4f47083fea12658e8a09db4277bb968e1b46c49e92581b1e181f0b4add79", "df5a8dfbd0931acd2f8294bfd918d6c8a780d13d2d3fdc24fce57b938c386846"},
		{"0000010000000000000000000000000000000000000000000000000000000000", "237ffaeaa06590f0c11006af70c05ce20e7036de0a7ec1a6c19604c128d84108", "1536268b2677eb5efd921021beb651556d02db4b5891cb3ffcc9e1676b1c047e"},
	} {
		wantShared(t, make([]byte, 32), unhex(t, c.point), c.noughts)
		wantShared(t, full(32), unhex(t, c.point), c.full)
	}
}

// TestAnswersNearModulus: P5.2: answers are below p, those too that are small or little less than p.
func TestAnswersNearModulus(t *testing.T) {
	const (
		noughts = "000000000000000000000000000000000000000000000000000000000000"
		ones    = "ffffffffffffffffffffffffffffffffffffffffffffffffffffffffff"
	)
	for _, c := range []struct{ point, want string }{
		{"a3e672bd51296249e1633b8db7ff195aa372b049c8c9233ca90a83bf2320bb23", "0200" + noughts},
		{"8dfabe1df4d502ee3d50bc7c37342bffc95c5680781951cbcb052800e71dcb67", "0900" + noughts},
		{"8b81ddc8efb04dcdedf51e9f20ae35af81b424411db927fc1de554145b136e17", "1000" + noughts},
		{"afd6022769e9cf8f255d6b2600b1c299591a120528d9a31f582c927b6131b57f", "1500" + noughts},
		{"d0c113a548a2880ca655198bcc863ef644f1a27e3311b33a0c058436f1c5e554", "1f00" + noughts},
		{"fdcf72f71a7d26035c38c2bc2497b0c6fa47d010639484152d6055fcf5ff3c04", "2200" + noughts},
		{"4f9550b37bf64da14cb4d8130c2ceab089ca3f2621416b08842a483b82d9c207", "2300" + noughts},
		{"12c9c8df39c79d651c1214529d9b9d338690e4df6bd9365ebc3bf1d8175ea640", "2b00" + noughts},
		{"197ebf4398600b711f48e26465fad8e6855951243ef7e64284d561fcbd38bb2c", "ceff" + ones + "7f"},
		{"06c2747b7b920f00d6655e5d3b5eb2ac82092eeac26dc45c93680e40184edd18", "d8ff" + ones + "7f"},
		{"470697429f35ea9d5eb7c5941eed37e12151a72d6a8567cc4e9e61fca3939b03", "dbff" + ones + "7f"},
		{"9db8bd763d8c6ffe1aaffc4c1b063d180bcfb52a4badd62b27239e13a575966c", "ddff" + ones + "7f"},
		{"6094febe42354b00b9203955393e5d638d3a3aa153e3c691b516621a0210866d", "e3ff" + ones + "7f"},
		{"55d47c04202f1a16cc599e1cad80748c626d2157286dc2ab7b2640b8919e1e65", "e5ff" + ones + "7f"},
		{"6407bc90a4ceefcdecb287f972dfa0fc42408d3c73933363e217f28d24f7da22", "edfffe" + ones[2:] + "7f"},
		{"7a8418e4bec1a7febaeafc781cd5fe7a1a0ec914bc7dfcda2a6a2cc8c4c6997a", "0300" + ones + "7f"},
	} {
		wantShared(t, pattern(32, 1), unhex(t, c.point), c.want)
	}
}
