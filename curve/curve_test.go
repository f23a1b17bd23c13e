package curve_test

import (
	"bytes"
	"encoding/hex"
	"fmt"
	"testing"

	"conclave/api"
	"conclave/curve"
	"conclave/sha"
)

// pattern: n bytes that differ from seed to seed.
func pattern(n, seed int) []byte {
	b := make([]byte, n)
	for i := range b {
		b[i] = byte((i*7 + seed*31 + 3) % 251)
	}
	return b
}

// full: n bytes in which each bit is set.
func full(n int) []byte { return bytes.Repeat([]byte{255}, n) }

// unhex: the bytes of a text in base 16.
func unhex(t *testing.T, text string) []byte {
	t.Helper()
	b, err := hex.DecodeString(text)
	if err != nil {
		t.Fatal(err)
	}
	return b
}

// small: the point of a number below 256.
func small(n byte) []byte {
	b := make([]byte, 32)
	b[0] = n
	return b
}

// beyond: the point of the number that is by so much greater than 2^255 - 256.
func beyond(n byte) []byte {
	b := full(32)
	b[0], b[31] = n, 127
	return b
}

// turned: a copy in which one bit is another.
func turned(b []byte, bit int) []byte {
	b = bytes.Clone(b)
	b[bit/8] ^= 1 << (bit % 8)
	return b
}

// shared, of a call that is not refused.
func shared(t *testing.T, secret, point []byte) []byte {
	t.Helper()
	got, e := curve.Shared(secret, point)
	if e != api.OK || len(got) != 32 {
		t.Fatalf("Shared of %x and %x: %x, %d", secret, point, got, int(e))
	}
	return got
}

// pointOf a secret, of a call that is not refused.
func pointOf(t *testing.T, secret []byte) []byte {
	t.Helper()
	got, e := curve.Point(secret)
	if e != api.OK || len(got) != 32 {
		t.Fatalf("Point of %x: %x, %d", secret, got, int(e))
	}
	return got
}

// wantShared: a call that is not refused, and its answer.
func wantShared(t *testing.T, secret, point []byte, want string) {
	t.Helper()
	if got, e := curve.Shared(secret, point); e != api.OK || hex.EncodeToString(got) != want {
		t.Errorf("Shared of %x and %x: %x, %d, want %s, 0", secret, point, got, int(e), want)
	}
}

// wantPoint: a call that is not refused, and its answer.
func wantPoint(t *testing.T, secret []byte, want string) {
	t.Helper()
	if got, e := curve.Point(secret); e != api.OK || hex.EncodeToString(got) != want {
		t.Errorf("Point of %x: %x, %d, want %s, 0", secret, got, int(e), want)
	}
}

// wantSum: so many answers, one behind the other, have this digest.
func wantSum(t *testing.T, what string, all []byte, want string) {
	t.Helper()
	if sum, e := sha.Sum(all); e != api.OK || hex.EncodeToString(sum) != want {
		t.Errorf("%s: %x, %d, want %s, 0", what, sum, int(e), want)
	}
}

// TestStandard: P5.2: the standard's own examples.
func TestStandard(t *testing.T) {
	for _, c := range []struct{ secret, point, want string }{
		{"a546e36bf0527c9d3b16154b82465edd62144c0ac1fc5a18506a2244ba449ac4", "e6db6867583030db3594c1a424b15f7c726624ec26b3353b10a903a6d0ab1c4c", "c3da55379de9c6908e94ea4df28d084f32eccf03491c71f754b4075577a28552"},
		{"4b66e9d4d1b4673c5ad22691957d6af5c11b6421e0ea01d42ca4169e7918ba0d", "e5210f12786811d3f4b7959d0538ae2c31dbe7106fc03c3efc4cd549c715a493", "95cbde9476e8907d7aade45cb4b873f88b595a68799fa152e6f8f7647aac7957"},
	} {
		wantShared(t, unhex(t, c.secret), unhex(t, c.point), c.want)
	}
}

// TestStandardOverAndOver: P5.2: the standard's example in which each answer is the next secret, and each secret the next point.
func TestStandardOverAndOver(t *testing.T) {
	secret, point := small(9), small(9)
	for i := range 1000 {
		secret, point = shared(t, secret, point), secret
		want := ""
		switch i + 1 {
		case 1:
			want = "422c8e7a6227d7bca1350b3e2bb7279f7897b87bb6854b783c60e80311ae3079"
		case 100:
			want = "b1a5a73158904c020866c13939dd7e1aa26852ee1d2609c92e5a8f1debe2150a"
		case 1000:
			want = "684cf59ba83309552800ef566f2f4d3c1c3887c49360e3875f2eb94d99532c51"
		default:
			continue
		}
		if hex.EncodeToString(secret) != want {
			t.Fatalf("after %d: %x, want %s", i+1, secret, want)
		}
	}
}

// TestStandardOfTwo: P5.2, P5.3: the standard's example of two that share a secret.
func TestStandardOfTwo(t *testing.T) {
	const (
		firstPoint  = "8520f0098930a754748b7ddcb43ef75a0dbf3a0d26381af4eba4a98eaa9b4e6a"
		secondPoint = "de9edb7d7b7dc1b4d35b61c2ece435373f8343c85b78674dadfc7e146f882b4f"
		want        = "4a5d9d5ba4ce2de1728e3bf480350f25e07e21c947d19e3376f09b3c1e161742"
	)
	first := unhex(t, "77076d0a7318a57d3c16c17251b26645df4c2f87ebc0992ab177fba51db92c2a")
	second := unhex(t, "5dab087e624a8a4b79e17f8b83800ee66f3bb1292618b6fd1c2f8b27ff88e0eb")
	wantPoint(t, first, firstPoint)
	wantPoint(t, second, secondPoint)
	wantShared(t, first, unhex(t, secondPoint), want)
	wantShared(t, second, unhex(t, firstPoint), want)
}

// TestPointOfEdges: P5.3: the chapter's example, and secrets about it.
func TestPointOfEdges(t *testing.T) {
	wantPoint(t, make([]byte, 32), "2fe57da347cd62431528daac5fbb290730fff684afc4cfc2ed90995f58cb3b74")
	wantPoint(t, full(32), "847c0d2c375234f365e660955187a3735a0f7613d1609d3a6a4d8c53aeaa5a22")
	wantPoint(t, pattern(32, 1), "1aaa7f9a0922ddbd0945cde274e5388632faf264c1d8621983bfd26c604f2d7a")
	if got := pointOf(t, make([]byte, 32)); !bytes.Equal(got[:4], []byte{47, 229, 125, 163}) {
		t.Errorf("the chapter's example: %d", got[:4])
	}
}

// TestPointIsShared: P5.3: a Point is what is Shared with 9, and with what is 9 modulo p.
func TestPointIsShared(t *testing.T) {
	for i := range 20 {
		secret := pattern(32, i)
		got := pointOf(t, secret)
		for _, nine := range [][]byte{small(9), turned(small(9), 255), beyond(0xed + 9)} {
			wantShared(t, secret, nine, hex.EncodeToString(got))
		}
	}
}

// TestSecretBits: P5.1: the bits of a secret that are taken as nought or as one change nothing, each other one does.
func TestSecretBits(t *testing.T) {
	for _, secret := range [][]byte{make([]byte, 32), full(32), pattern(32, 1)} {
		point, both := pointOf(t, secret), shared(t, secret, pattern(32, 2))
		for bit := range 256 {
			other := turned(secret, bit)
			same := bit < 3 || bit >= 254
			if got := pointOf(t, other); bytes.Equal(got, point) != same {
				t.Errorf("%x with the bit %d turned: the Point is %x; it was %x", secret, bit, got, point)
			}
			if got := shared(t, other, pattern(32, 2)); bytes.Equal(got, both) != same {
				t.Errorf("%x with the bit %d turned: Shared is %x; it was %x", secret, bit, got, both)
			}
		}
	}
}

// TestSecretBitsTogether: P5.1: each of the ways in which those bits may be set.
func TestSecretBitsTogether(t *testing.T) {
	for i := range 32 {
		low, full := make([]byte, 32), full(32)
		low[0], low[31] = byte(i%8), byte(i/8<<6)
		full[0], full[31] = byte(0xf8+i%8), byte(0x3f+i/8<<6)
		wantPoint(t, low, "2fe57da347cd62431528daac5fbb290730fff684afc4cfc2ed90995f58cb3b74")
		wantPoint(t, full, "847c0d2c375234f365e660955187a3735a0f7613d1609d3a6a4d8c53aeaa5a22")
	}
}

// TestPointBits: P5.1: the highest bit of a point changes nothing, each other one does.
func TestPointBits(t *testing.T) {
	for _, point := range [][]byte{small(20), full(32), pattern(32, 1)} {
		was := shared(t, pattern(32, 3), point)
		for bit := range 256 {
			got, e := curve.Shared(pattern(32, 3), turned(point, bit))
			if e != api.OK || bytes.Equal(got, was) != (bit == 255) {
				t.Errorf("%x with the bit %d turned: %x, %d; it was %x", point, bit, got, int(e), was)
			}
		}
	}
}

// TestMany: P5.2, P5.3: many secrets and points.
func TestMany(t *testing.T) {
	var both, points []byte
	for i := range 62 {
		both = append(both, shared(t, pattern(32, i), pattern(32, i+70))...)
		points = append(points, pointOf(t, pattern(32, i))...)
	}
	wantSum(t, "Shared", both, "1388a2283f13bc7956ed96c4759adad2a9b7e69674bdbf88fc865394851cd60a")
	wantSum(t, "Point", points, "5e2d369c27f972eff2f822da6fdca4544da11e7d4d36b3e8aca0641cbe993cf1")
}

// TestTwoShareTheSame: two that have a secret each, and the other's point, share the same, whichever comes first.
func TestTwoShareTheSame(t *testing.T) {
	secrets := [][]byte{make([]byte, 32), full(32), small(9), small(255), beyond(0xed)}
	for i := range 10 {
		secrets = append(secrets, pattern(32, i))
	}
	for i, first := range secrets {
		for j, second := range secrets[:i+1] {
			a, b := shared(t, first, pointOf(t, second)), shared(t, second, pointOf(t, first))
			if !bytes.Equal(a, b) {
				t.Errorf("secrets %d and %d: %x and %x", i, j, a, b)
			}
		}
	}
}

// TestThreeShareTheSame: three do too, in each order, and from a point that is not a multiple of 9.
func TestThreeShareTheSame(t *testing.T) {
	a, b, c := pattern(32, 1), pattern(32, 2), full(32)
	for _, from := range [][]byte{small(9), small(2), small(3), full(32), pattern(32, 4)} {
		want := shared(t, a, shared(t, b, shared(t, c, from)))
		for i, order := range [][3][]byte{{a, c, b}, {b, a, c}, {b, c, a}, {c, a, b}, {c, b, a}} {
			got := shared(t, order[0], shared(t, order[1], shared(t, order[2], from)))
			if !bytes.Equal(got, want) {
				t.Errorf("from %x, order %d: %x, want %x", from, i, got, want)
			}
		}
	}
}

// wantRefused: a call that is refused, and answers nothing else.
func wantRefused(t *testing.T, what string, got []byte, e, want api.Errno) {
	t.Helper()
	if e != want || len(got) != 0 {
		t.Errorf("%s: %x, %d, want nothing, %d", what, got, int(e), int(want))
	}
}

// TestRefusesSizes: P5.2, P5.3: a secret or a point of another length, alone and both at once, also where noughts would come of the point.
func TestRefusesSizes(t *testing.T) {
	sizes := []int{0, 1, 2, 16, 31, 32, 33, 48, 64, 65, 1000, 1 << 20}
	for _, k := range sizes {
		for _, n := range sizes {
			if k == 32 && n == 32 {
				continue
			}
			what := fmt.Sprint("secret ", k, ", point ", n)
			for _, point := range [][]byte{pattern(n, 2), make([]byte, n)} {
				got, e := curve.Shared(pattern(k, 1), point)
				wantRefused(t, what, got, e, api.ErrSize)
				got, e = curve.Shared(make([]byte, k), point)
				wantRefused(t, what+" of noughts", got, e, api.ErrSize)
			}
		}
		if k != 32 {
			got, e := curve.Point(pattern(k, 1))
			wantRefused(t, fmt.Sprint("Point of ", k), got, e, api.ErrSize)
			got, e = curve.Point(make([]byte, k))
			wantRefused(t, fmt.Sprint("Point of noughts ", k), got, e, api.ErrSize)
		}
	}
	for _, c := range []struct{ secret, point []byte }{{nil, nil}, {nil, small(9)}, {nil, small(0)}, {pattern(32, 1), nil}} {
		got, e := curve.Shared(c.secret, c.point)
		wantRefused(t, fmt.Sprintf("nil: %x, %x", c.secret, c.point), got, e, api.ErrSize)
	}
	got, e := curve.Point(nil)
	wantRefused(t, "Point of nil", got, e, api.ErrSize)
}
