package seal_test

import (
	"bytes"
	"encoding/hex"
	"fmt"
	"testing"

	"conclave/api"
	"conclave/seal"
)

// changed: a copy in which a bit is another.
func changed(b []byte, bit int) []byte {
	b = bytes.Clone(b)
	b[bit/8] ^= 1 << (bit % 8)
	return b
}

// TestOpenWhatIsSealed: P4.3: what is sealed is opened, at lengths about whole pieces and blocks and up to MaxKey and MaxData.
func TestOpenWhatIsSealed(t *testing.T) {
	key, nonce := pattern(32, 4), pattern(12, 5)
	for _, k := range []int{0, 1, 15, 16, 17, 100, 255, api.MaxKey} {
		for _, n := range []int{0, 1, 15, 16, 17, 31, 32, 33, 63, 64, 65, 500, api.MaxData - 1, api.MaxData} {
			known, plain := pattern(k, 6), pattern(n, 7)
			data, e := seal.Seal(key, nonce, known, plain)
			if e != api.OK {
				t.Fatal(k, n, int(e))
			}
			back, e := seal.Open(key, nonce, known, data)
			wantBytes(t, fmt.Sprint(k, " known, ", n, " plain"), back, e, hex.EncodeToString(plain))
		}
	}
}

// TestOpenWorkedOut: P4.3: what was sealed apart from the program.
func TestOpenWorkedOut(t *testing.T) {
	for _, c := range []struct {
		known, plain int
		data         string
	}{
		{0, 0, "daf500bfed5e6f393e46736be7f334c6"},
		{17, 0, "c23bcca69a6114a046bacaef420d2ed4"},
		{1, 1, "57" + "951d8a4404ff8e315a87df6d66c81b71"},
		{15, 15, "57b129cc3d21f7819516fe6979be1a" + "cdf5ed61ac4b30c3b2d876a2a8e6a278"},
		{16, 16, "57b129cc3d21f7819516fe6979be1af2" + "3f9167e4f5c5999152713a8bdcc94f1c"},
		{17, 17, "57b129cc3d21f7819516fe6979be1af20f" + "16fcb3fa1943881c446995e6f1a71e83"},
	} {
		got, e := seal.Open(pattern(32, 1), pattern(12, 2), pattern(c.known, 4), unhex(t, c.data))
		wantBytes(t, fmt.Sprint(c.known, " known, ", c.plain, " plain"), got, e, hex.EncodeToString(pattern(c.plain, 3)))
	}
}

// TestOpenAfterAnyBit: P4.3: any one bit of what is sealed, the tag, what is known, the nonce or the key is another.
func TestOpenAfterAnyBit(t *testing.T) {
	for _, c := range []struct{ known, plain int }{{0, 0}, {5, 0}, {0, 5}, {15, 17}, {16, 16}, {33, 70}} {
		parts := [4][]byte{pattern(32, 1), pattern(12, 2), pattern(c.known, 4)}
		parts[3], _ = seal.Seal(parts[0], parts[1], parts[2], pattern(c.plain, 3))
		for i, part := range parts {
			for bit := range 8 * len(part) {
				handed := parts
				handed[i] = changed(part, bit)
				got, e := seal.Open(handed[0], handed[1], handed[2], handed[3])
				wantRefused(t, fmt.Sprint(c.known, " known, ", c.plain, " plain, the bit ", bit, " of the list ", i), got, e, api.ErrTag)
			}
		}
	}
}

// TestOpenAfterBitOfLongest: P4.3: a bit of each part of the longest lists is another.
func TestOpenAfterBitOfLongest(t *testing.T) {
	key, nonce, known := pattern(32, 1), pattern(12, 2), pattern(api.MaxKey, 4)
	data, _ := seal.Seal(key, nonce, known, pattern(api.MaxData, 3))
	for bit := 0; bit < 8*len(data); bit += 61 {
		got, e := seal.Open(key, nonce, known, changed(data, bit))
		wantRefused(t, fmt.Sprint("the bit ", bit, " of the data"), got, e, api.ErrTag)
	}
	for _, bit := range []int{0, 8*api.MaxData - 1, 8 * api.MaxData, 8*len(data) - 1} {
		got, e := seal.Open(key, nonce, known, changed(data, bit))
		wantRefused(t, fmt.Sprint("the bit ", bit, " of the data"), got, e, api.ErrTag)
	}
	for _, bit := range []int{0, 8*api.MaxKey/2 + 3, 8*api.MaxKey - 1} {
		got, e := seal.Open(key, nonce, changed(known, bit), data)
		wantRefused(t, fmt.Sprint("the bit ", bit, " of what is known"), got, e, api.ErrTag)
	}
}

// TestOpenAfterTwoBitsOfTag: P4.3: the same bit of two bytes of the tag is another: no sum over them hides it.
func TestOpenAfterTwoBitsOfTag(t *testing.T) {
	key, nonce, known := pattern(32, 1), pattern(12, 2), pattern(9, 4)
	data, _ := seal.Seal(key, nonce, known, pattern(20, 3))
	for i := range tagSize {
		for j := range i {
			got, e := seal.Open(key, nonce, known, changed(changed(data, 8*(20+i)), 8*(20+j)))
			wantRefused(t, fmt.Sprint("the bytes ", j, " and ", i), got, e, api.ErrTag)
		}
	}
}

// TestOpenAfterShift: P4.3: noughts come or go, at the end of what is known or of what is sealed, or go over from one to the other.
func TestOpenAfterShift(t *testing.T) {
	key, nonce := pattern(32, 1), pattern(12, 2)
	known, plain := make([]byte, 14), pattern(30, 3)
	data, _ := seal.Seal(key, nonce, known, plain)
	inside, tag := data[:30], data[30:]
	for _, c := range []struct {
		what        string
		known, data []byte
	}{
		{"one more known", make([]byte, 15), data},
		{"one fewer known", make([]byte, 13), data},
		{"nothing known", nil, data},
		{"one more sealed", known, join(inside, []byte{0}, tag)},
		{"one fewer sealed", known, join(inside[:29], tag)},
		{"nothing sealed", known, tag},
		{"the tag ahead", known, join(tag, inside)},
		{"one more behind", known, join(data, []byte{0})},
		{"one fewer behind", known, data[:45]},
		{"all is known", join(known, inside), tag},
		{"all is sealed", nil, join(known, data)},
	} {
		got, e := seal.Open(key, nonce, c.known, c.data)
		wantRefused(t, c.what, got, e, api.ErrTag)
	}
}

// TestOpenedIsSealed: P4.3: of all that differ in the tag's last byte alone just one is opened: the one that sealing makes.
func TestOpenedIsSealed(t *testing.T) {
	key, nonce := pattern(32, 1), pattern(12, 2)
	for _, c := range []struct{ known, plain int }{{0, 0}, {7, 0}, {0, 40}, {api.MaxKey, api.MaxData}} {
		known := pattern(c.known, 4)
		made, _ := seal.Seal(key, nonce, known, pattern(c.plain, 3))
		opened := 0
		for last := range 256 {
			data := bytes.Clone(made)
			data[len(data)-1] = byte(last)
			plain, e := seal.Open(key, nonce, known, data)
			if e == api.ErrTag && len(plain) == 0 {
				continue
			}
			opened++
			again, _ := seal.Seal(key, nonce, known, plain)
			wantBytes(t, fmt.Sprint(c.known, " known, ", c.plain, " plain, the last byte ", last), again, e, hex.EncodeToString(data))
		}
		if opened != 1 {
			t.Errorf("%d known, %d plain: %d are opened", c.known, c.plain, opened)
		}
	}
}

// TestOpenExamples: P4.3: noughts alone, one fewer than a tag and just a tag.
func TestOpenExamples(t *testing.T) {
	got, e := seal.Open(make([]byte, 32), make([]byte, 12), nil, make([]byte, 15))
	wantRefused(t, "15 noughts", got, e, api.ErrShort)
	got, e = seal.Open(make([]byte, 32), make([]byte, 12), nil, make([]byte, 16))
	wantRefused(t, "16 noughts", got, e, api.ErrTag)
}

// TestOpenRefusesSizes: P4.3: lengths of the key, the nonce, what is known and the data: ahead of data that is short, and of a tag that is wrong.
func TestOpenRefusesSizes(t *testing.T) {
	for _, c := range wrongParts {
		for _, n := range []int{0, 1, 15, 16, 17, 100, api.MaxData + tagSize, api.MaxData + tagSize + 1} {
			got, e := seal.Open(pattern(c.key, 1), pattern(c.nonce, 2), pattern(c.known, 4), pattern(n, 3))
			wantRefused(t, fmt.Sprint("key, nonce, known, data ", c.key, c.nonce, c.known, n), got, e, api.ErrSize)
		}
	}
	for _, n := range []int{api.MaxData + tagSize + 1, api.MaxData + 2*tagSize, 2 * api.MaxData, 2*api.MaxData + 1, 1 << 20} {
		for _, known := range []int{0, api.MaxKey} {
			got, e := seal.Open(pattern(32, 1), pattern(12, 2), pattern(known, 4), make([]byte, n))
			wantRefused(t, fmt.Sprint(known, " known, data ", n), got, e, api.ErrSize)
		}
	}
	got, e := seal.Open(nil, nil, nil, nil)
	wantRefused(t, "nil", got, e, api.ErrSize)
}

// TestOpenRefusesShort: P4.3: each length that is too short for a tag, the beginning of what is sealed or not; then it is the tag.
func TestOpenRefusesShort(t *testing.T) {
	key, nonce := pattern(32, 1), pattern(12, 2)
	for _, k := range []int{0, 5, api.MaxKey} {
		data, _ := seal.Seal(key, nonce, pattern(k, 4), nil)
		for n := range tagSize {
			for _, from := range [][]byte{data, pattern(tagSize, 3)} {
				got, e := seal.Open(key, nonce, pattern(k, 4), from[:n])
				wantRefused(t, fmt.Sprint(k, " known, data ", n), got, e, api.ErrShort)
			}
		}
		got, e := seal.Open(key, nonce, pattern(k, 4), nil)
		wantRefused(t, fmt.Sprint(k, " known, no data"), got, e, api.ErrShort)
		for _, n := range []int{tagSize, tagSize + 1, api.MaxData, api.MaxData + 1, api.MaxData + tagSize - 1, api.MaxData + tagSize} {
			got, e := seal.Open(key, nonce, pattern(k, 4), pattern(n, 3))
			wantRefused(t, fmt.Sprint(k, " known, data ", n), got, e, api.ErrTag)
		}
	}
}
