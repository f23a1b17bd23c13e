package line_test

import (
	"bytes"
	"fmt"
	"testing"

	"conclave/api"
	"conclave/line"
)

// die: numbers that look drawn, the same each time.
type die uint64

func (d *die) n(most int) int {
	*d = *d*6364136223846793005 + 1442695040888963407
	return int(uint64(*d>>33) % uint64(most))
}

// many records, one behind the other, the record i of the pattern i.
func many(t *testing.T, key []byte, count int) [][]byte {
	t.Helper()
	c := fresh(t, key)
	var records [][]byte
	for i := range count {
		next, r := sent(t, c, pattern(i%23, i))
		c, records = next, append(records, r)
	}
	return records
}

// TestInOrder: P6.3, P6.4: what is sent is taken, one by one; the window is full from the eighth on.
func TestInOrder(t *testing.T) {
	c := fresh(t, pattern(32, 4))
	for i, r := range many(t, pattern(32, 4), 300) {
		next, plain := taken(t, c, r)
		if !bytes.Equal(plain, pattern(i%23, i)) {
			t.Fatalf("the record %d: %x", i, plain)
		}
		want := api.Channel{Key: pattern(32, 4), Top: i + 1}
		for back := 1; back <= min(i+1, api.Window); back++ {
			want.Seen[api.Window-back] = true
		}
		wantChannel(t, fmt.Sprint("behind ", i), next, want)
		c = next
	}
}

// TestOutOfOrder: P6.4: eight records, the last one first, come all; so do eight more of which the first one is late; one that is later does not.
func TestOutOfOrder(t *testing.T) {
	records := many(t, pattern(32, 4), 40)
	c := fresh(t, pattern(32, 4))
	for _, step := range []struct {
		number int
		want   api.Errno
	}{
		{7, 0}, {6, 0}, {5, 0}, {4, 0}, {3, 0}, {2, 0}, {1, 0}, {0, 0},
		{9, 0}, {10, 0}, {11, 0}, {15, 0}, {8, 0}, {7, api.ErrOld},
		{18, 0}, {12, 0}, {10, api.ErrOld}, {11, api.ErrOld}, {9, api.ErrOld}, {19, 0}, {16, 0}, {17, 0}, {13, 0}, {14, 0}, {12, api.ErrOld},
		{39, 0}, {31, api.ErrOld}, {32, 0}, {32, api.ErrOld}, {38, 0}, {39, api.ErrOld}, {20, api.ErrOld},
	} {
		next, plain, e := line.Take(c, records[step.number])
		if e != step.want {
			t.Fatalf("the record %d: %d, want %d", step.number, int(e), int(step.want))
		}
		if e != api.OK {
			wantRefused(t, fmt.Sprint("the record ", step.number), next, plain, e, step.want)
			continue
		}
		if !bytes.Equal(plain, pattern(step.number%23, step.number)) {
			t.Errorf("the record %d: %x", step.number, plain)
		}
		c = next
	}
}

// TestLostDoubledMixed: P6.4: records come about their order, twice, late or never, and some of them changed: each is taken at most once, and just those that are not too old.
func TestLostDoubledMixed(t *testing.T) {
	const count = 400
	records := many(t, pattern(32, 4), count)
	for script := range 20 {
		d := die(script)
		c := fresh(t, pattern(32, 4))
		was, top := [count]bool{}, 0
		reach := 2 + script // how far records are mixed
		for step := range 2 * count {
			number := min(max(step/2+d.n(reach)-d.n(reach), 0), count-1)
			want := api.OK
			r := records[number]
			if was[number] || number < top-api.Window {
				want = api.ErrOld
			} else if d.n(5) == 0 {
				r, want = changed(r, 8*headSize+d.n(8*(len(r)-headSize))), api.ErrTag
			}
			next, plain, e := line.Take(c, r)
			what := fmt.Sprint("script ", script, ", step ", step, ", the record ", number)
			if want != api.OK {
				wantRefused(t, what, next, plain, e, want)
				continue
			}
			if e != api.OK || !bytes.Equal(plain, pattern(number%23, number)) {
				t.Fatalf("%s: %x, %d", what, plain, int(e))
			}
			was[number], top = true, max(top, number+1)
			wantChannel(t, what, next, remembered(was[:], top))
			c = next
		}
	}
}

// remembered: the channel of all numbers that ever were met.
func remembered(was []bool, top int) api.Channel {
	c := api.Channel{Key: pattern(32, 4), Top: top}
	for i := range c.Seen {
		number := top - api.Window + i
		c.Seen[i] = number >= 0 && was[number]
	}
	return c
}

// TestBothWays: P6.3, P6.4: two channels with one key send and take, while some records are lost: neither count stirs the other.
func TestBothWays(t *testing.T) {
	here, there := fresh(t, full(32)), fresh(t, full(32))
	for i := range 50 {
		var to, back, plain []byte
		here, to = sent(t, here, pattern(i, 1))
		there, back = sent(t, there, pattern(i, 2))
		here, plain = taken(t, here, back)
		if !bytes.Equal(plain, pattern(i, 2)) {
			t.Errorf("the record %d here: %x", i, plain)
		}
		if i%3 == 1 {
			continue // what goes there is lost
		}
		there, plain = taken(t, there, to)
		if !bytes.Equal(plain, pattern(i, 1)) {
			t.Errorf("the record %d there: %x", i, plain)
		}
	}
	wantChannel(t, "here", here, api.Channel{Key: full(32), Sent: 50, Top: 50, Seen: [api.Window]bool{true, true, true, true, true, true, true, true}})
	wantChannel(t, "there", there, api.Channel{Key: full(32), Sent: 50, Top: 49, Seen: [api.Window]bool{true, true, false, true, true, false, true, true}})
}

// TestTakeWhatOneSent: P6.4: a channel can take its own records, once.
func TestTakeWhatOneSent(t *testing.T) {
	c, r := sent(t, fresh(t, pattern(32, 1)), pattern(6, 2))
	c, plain := taken(t, c, r)
	want := channel(1, 0)
	want.Sent = 1
	wantChannel(t, "behind its own", c, want)
	if !bytes.Equal(plain, pattern(6, 2)) {
		t.Errorf("%x", plain)
	}
	again, plain, e := line.Take(c, r)
	wantRefused(t, "again", again, plain, e, api.ErrOld)
}
