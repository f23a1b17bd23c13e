package line_test

import (
	"bytes"
	"encoding/hex"
	"fmt"
	"testing"

	"conclave/api"
	"conclave/line"
	"conclave/sha"
)

// sending: a channel with a key whose next record has this number.
func sending(key []byte, number int) api.Channel {
	return api.Channel{Key: key, Sent: number}
}

// TestSendAtNumbers: P6.3: records worked out apart from the program, of each number of bytes that is not nought, and at both ends.
func TestSendAtNumbers(t *testing.T) {
	for _, c := range []struct {
		number int
		want   string
	}{
		{0, "00000000337aba494a8aeb14424173f5ae86b9d114dee00f57"},
		{1, "0000000161d705276c1f769389e8160e17a07dc5b0839ed159"},
		{2, "00000002654c35c9df15f0fac3c52ff609418c1faf278e11b9"},
		{7, "000000076415eb95f2026e3f63d69450fa5198d36bbaacba07"},
		{8, "000000081d14a5de5a201cf90fda7b76b821142eb380956861"},
		{127, "0000007f8e4766a74ba421f7950cc278136ec488e0e2aa6d05"},
		{128, "000000803aba60be69e1657b4439efb5cd8f319a66c10b2339"},
		{255, "000000ffa8dddcf6d1c537b36b98b88fa145e7bd300571a820"},
		{256, "00000100b225c87d0f0e06f8937edcedef760597c016514ec7"},
		{257, "00000101c97cd704d35cc58b7f7ee2b65c9c1aa958844e8259"},
		{1<<16 - 1, "0000fffffefd1085c64f5898e691d0c7c37838a35f0fd48cfa"},
		{1 << 16, "000100006f60a21727decb9b74f404024998643b7863b1f751"},
		{0x00ff00ff, "00ff00ff85ce230a1db2c715a987376ead2f67367d7be55224"},
		{1<<24 - 1, "00ffffffb7a9354e856bddb6c72e46aa2033710f741337b532"},
		{1 << 24, "01000000cb018d6311ee75ec7bf4010e7434e85740d6878b15"},
		{0x01020304, "01020304660bba4947d48c378f389ecf8663a6b8e2cebf92c1"},
		{api.MaxCounter / 2, "200000009bc0d08a4582c5bed373d785fa90a013bb5ff5f9fa"},
		{last - 1, "3ffffffe10ddbb1bb923531211e454758fd69122479163e641"},
		{last, "3fffffff8f050e3ad0d5af420dfe5ac71cced38453e0211a88"},
	} {
		next, r := sent(t, sending(pattern(32, 1), c.number), pattern(5, 3))
		if hex.EncodeToString(r) != c.want {
			t.Errorf("the record %d: %x, want %s", c.number, r, c.want)
		}
		wantChannel(t, fmt.Sprint("behind ", c.number), next, sending(pattern(32, 1), c.number+1))
		back, plain := taken(t, channel(0), unhex(t, c.want))
		if !bytes.Equal(plain, pattern(5, 3)) {
			t.Errorf("the bytes of %d: %x", c.number, plain)
		}
		wantChannel(t, fmt.Sprint("with ", c.number), back, channel(c.number+1, c.number))
	}
}

// TestSendOfNothing: P6.3: no bytes: a head and a tag.
func TestSendOfNothing(t *testing.T) {
	for _, nothing := range [][]byte{nil, {}} {
		for _, c := range []struct {
			key    []byte
			number int
			want   string
		}{
			{make([]byte, 32), 0, "00000000084c1a11ee5e94baa6f4695e3a262a64"},
			{make([]byte, 32), last, "3fffffff36eac22e3368f5d96af838186ded73c5"},
			{pattern(32, 1), 0, "00000000a66082ca16f8a40d46704827fd6f3bb0"},
			{pattern(32, 1), last, "3fffffff60dc062281220f7b7f7a5ab8e9193379"},
			{full(32), 0, "00000000458ff984f0a5d7aea00b119218719e81"},
			{full(32), last, "3fffffff066abe8e2115dba6695b155d167ed214"},
		} {
			next, r := sent(t, sending(c.key, c.number), nothing)
			if hex.EncodeToString(r) != c.want {
				t.Errorf("the record %d of nothing: %x, want %s", c.number, r, c.want)
			}
			wantChannel(t, "of nothing", next, sending(c.key, c.number+1))
		}
	}
}

// TestSendAtSizes: P6.3: the head and the tag of more and more bytes, up to MaxData.
func TestSendAtSizes(t *testing.T) {
	for _, c := range []struct {
		size int
		want string
	}{
		{0, "e3e36bb8fd0f866718a2a0ba959bc8ee"},
		{1, "6f9aa24d4c69ea93848ec6ea301de809"},
		{15, "58f6264fa85fb9eb0fe065ccd742902a"},
		{16, "43214095690ebbd4300d0883c03eb886"},
		{17, "e9ba4e30e4219e795e4f0f961d74e2d8"},
		{63, "379a9432e62c24ca629e6fa52a9cf82e"},
		{64, "e7c9846a29d4b3cd1834ab7b87e891c7"},
		{65, "73f01d5db3f5f46c307f029b083d4da6"},
		{128, "6e11683fd977bd2b05447dec8c8115ed"},
		{1000, "2f8e19255652cab1e40f18a8455dc43d"},
		{api.MaxData - 1, "4c9176f9870cb4616674cc142c9911a9"},
		{api.MaxData, "90c8f839311a2c3d20d215c93529e6ab"},
	} {
		_, r := sent(t, sending(pattern(32, 1), 77), pattern(c.size, 3))
		tag := r[headSize+c.size:]
		if !bytes.Equal(r[:headSize], []byte{0, 0, 0, 77}) || hex.EncodeToString(tag) != c.want {
			t.Errorf("%d bytes: %x .. %x, want 0000004d .. %s", c.size, r[:headSize], tag, c.want)
		}
		if want := record(t, pattern(32, 1), 77, pattern(c.size, 3)); !bytes.Equal(r, want) {
			t.Errorf("%d bytes: %x, want %x", c.size, r, want)
		}
	}
	_, r := sent(t, sending(full(32), last), full(api.MaxData))
	if tag := hex.EncodeToString(r[headSize+api.MaxData:]); tag != "fa1b35ef828597823d261205a243667a" {
		t.Errorf("every bit set: %s", tag)
	}
}

// TestSendOfMany: P6.3: many keys, numbers and lengths, the heads and tags one behind the other.
func TestSendOfMany(t *testing.T) {
	var all []byte
	for i := range 100 {
		_, r := sent(t, sending(pattern(32, i), (i*10737413+i*i)%api.MaxCounter), pattern(i*331%(api.MaxData+1), i+3))
		all = join(all, r[:headSize], r[len(r)-tagSize:])
	}
	const want = "ef7fe5c802f0904f6e3354bfe116ec76a1ab94b5e666eb1d8076824c237fdb26"
	if sum, e := sha.Sum(all); e != api.OK || hex.EncodeToString(sum) != want {
		t.Errorf("the digest of all: %x, %d, want %s", sum, int(e), want)
	}
}

// TestSendOneByOne: P6.3: each record has the next number, and what was met stays.
func TestSendOneByOne(t *testing.T) {
	for _, c := range []api.Channel{channel(0), channel(1, 0), channel(9, 1, 4, 8), channel(api.MaxCounter, last, last-7)} {
		want := c
		for number := range 300 {
			next, r := sent(t, c, pattern(number%40, 2))
			if made := record(t, pattern(32, 1), number, pattern(number%40, 2)); !bytes.Equal(r, made) {
				t.Fatalf("the record %d: %x, want %x", number, r, made)
			}
			want.Sent = number + 1
			wantChannel(t, fmt.Sprint("behind ", number), next, want)
			c = next
		}
	}
}

// TestSendUpToTheLast: P6.3: the last numbers are sent, and no more; a channel that is full takes records yet.
func TestSendUpToTheLast(t *testing.T) {
	c := sending(pattern(32, 1), api.MaxCounter-3)
	for range 3 {
		c, _ = sent(t, c, pattern(4, 2))
	}
	if c.Sent != api.MaxCounter || line.Check(c) != api.OK {
		t.Fatalf("%v is not full, or may not be", c)
	}
	for _, n := range []int{0, 4, api.MaxData} {
		next, r, e := line.Send(c, pattern(n, 2))
		wantRefused(t, fmt.Sprint(n, " bytes and no number"), next, r, e, api.ErrFull)
	}
	next, plain := taken(t, c, record(t, pattern(32, 1), 6, pattern(4, 2)))
	if next.Sent != api.MaxCounter || next.Top != 7 || !bytes.Equal(plain, pattern(4, 2)) {
		t.Errorf("%v, %x", next, plain)
	}
}

// TestSendRefuses: P6.3: more than MaxData bytes, and that ahead of a channel that is full; then nothing is sent.
func TestSendRefuses(t *testing.T) {
	for _, number := range []int{0, 1, 1000, last, api.MaxCounter} {
		for _, n := range []int{api.MaxData + 1, api.MaxData + tagSize, api.MaxData + 20, api.MaxData + 21, 2 * api.MaxData, 1 << 20} {
			c := sending(pattern(32, 1), number)
			next, r, e := line.Send(c, make([]byte, n))
			wantRefused(t, fmt.Sprint(n, " bytes with the number ", number), next, r, e, api.ErrSize)
			wantChannel(t, "what was handed in", c, sending(pattern(32, 1), number))
		}
	}
}
