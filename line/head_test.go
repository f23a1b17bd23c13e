package line

import (
	"bytes"
	"testing"
)

// TestCut: P6.4: a head is four bytes and has no room behind them, so that what is put behind it leaves the record as it is.
func TestCut(t *testing.T) {
	record := []byte{1, 2, 3, 4, 5, 6, 7}
	head, sealed := cut(record)
	if len(head) != headSize || cap(head) != headSize || !bytes.Equal(sealed, []byte{5, 6, 7}) {
		t.Errorf("%v with room for %d, %v", head, cap(head), sealed)
	}
	if longer := append(head, 9); longer[4] != 9 || !bytes.Equal(record, []byte{1, 2, 3, 4, 5, 6, 7}) {
		t.Errorf("%v, %v", longer, record)
	}
}

// TestHead: P6.3, P6.4: a number's four bytes, the highest one first, and back.
func TestHead(t *testing.T) {
	for _, c := range []struct {
		number int
		head   []byte
	}{
		{0, []byte{0, 0, 0, 0}},
		{1, []byte{0, 0, 0, 1}},
		{255, []byte{0, 0, 0, 255}},
		{256, []byte{0, 0, 1, 0}},
		{0x01020304, []byte{1, 2, 3, 4}},
		{1<<30 - 1, []byte{63, 255, 255, 255}},
		{1 << 30, []byte{64, 0, 0, 0}},
		{1 << 31, []byte{128, 0, 0, 0}},
		{1<<32 - 1, []byte{255, 255, 255, 255}},
	} {
		if head := headOf(c.number); !bytes.Equal(head, c.head) {
			t.Errorf("the head of %d: %v, want %v", c.number, head, c.head)
		}
		if number := numberOf(c.head); number != c.number {
			t.Errorf("the number of %v: %d, want %d", c.head, number, c.number)
		}
		if nonce := nonceOf(c.head); !bytes.Equal(nonce, append(make([]byte, 8), c.head...)) {
			t.Errorf("the nonce of %v: %v", c.head, nonce)
		}
	}
}
