package line_test

import (
	"bytes"
	"fmt"
	"testing"

	"conclave/api"
	"conclave/line"
)

// someSeen: what may have been met, the lowest one first.
func someSeen(top int) []api.Channel {
	var all []api.Channel
	for bits := range 1 << api.Window {
		c := channel(top)
		c.Sent = 3
		fromBits(&c, bits)
		if line.Check(c) == api.OK {
			all = append(all, c)
		}
	}
	return all
}

// met: the numbers that a channel remembers.
func met(c api.Channel) []int {
	var numbers []int
	for i, is := range c.Seen {
		if is {
			numbers = append(numbers, c.Top-api.Window+i)
		}
	}
	return numbers
}

// behindTake: what a channel is to be when it has been handed a number, told of the numbers alone.
func behindTake(c api.Channel, number int) (api.Channel, api.Errno) {
	if number < c.Top-api.Window {
		return api.Channel{}, api.ErrOld
	}
	top, kept := max(c.Top, number+1), []int{number}
	for _, other := range met(c) {
		if other == number {
			return api.Channel{}, api.ErrOld
		}
		if other >= top-api.Window {
			kept = append(kept, other)
		}
	}
	want := channel(top, kept...)
	want.Sent = c.Sent
	return want, api.OK
}

// TestTakeOfAllNumbers: P6.4: all that may have been met, at tops about 0 and about MaxCounter and between, and all numbers about them.
func TestTakeOfAllNumbers(t *testing.T) {
	plain := pattern(3, 2)
	for _, top := range []int{0, 1, 2, 5, 7, 8, 9, 15, 16, 17, 1 << 16, api.MaxCounter - 9, api.MaxCounter - 8, api.MaxCounter - 7, last - 1, last, api.MaxCounter} {
		for number := max(0, top-10); number < min(api.MaxCounter, top+18); number++ {
			r := record(t, pattern(32, 1), number, plain)
			for _, c := range someSeen(top) {
				want, e := behindTake(c, number)
				got, b, f := line.Take(c, r)
				what := fmt.Sprint("top ", top, ", met ", met(c), ", the number ", number)
				if e != api.OK {
					wantRefused(t, what, got, b, f, e)
					continue
				}
				if f != api.OK || !bytes.Equal(b, plain) {
					t.Errorf("%s: %x, %d", what, b, int(f))
				}
				wantChannel(t, what, got, want)
			}
		}
	}
}

// TestTakeAtEdges: P6.4: the numbers that the chapter names, told by hand.
func TestTakeAtEdges(t *testing.T) {
	all := []int{12, 13, 14, 15, 16, 17, 18, 19}
	for _, c := range []struct {
		what   string
		from   api.Channel
		number int
		want   api.Channel
	}{
		{"the first one", channel(0), 0, channel(1, 0)},
		{"not the first one", channel(0), 3, channel(4, 3)},
		{"the last one at first", channel(0), last, channel(api.MaxCounter, last)},
		{"the eighth at first", channel(0), 7, channel(8, 7)},
		{"the ninth at first", channel(0), 8, channel(9, 8)},
		{"Top", channel(20, all...), 20, channel(21, 13, 14, 15, 16, 17, 18, 19, 20)},
		{"Top and one", channel(20, all...), 21, channel(22, 14, 15, 16, 17, 18, 19, 21)},
		{"a jump of a window but one", channel(20, all...), 26, channel(27, 19, 26)},
		{"a jump of a window", channel(20, all...), 27, channel(28, 27)},
		{"a jump of more than a window", channel(20, all...), 28, channel(29, 28)},
		{"a jump of two windows", channel(20, all...), 35, channel(36, 35)},
		{"a far jump", channel(20, all...), 1 << 20, channel(1<<20+1, 1<<20)},
		{"a jump to the last number", channel(20, all...), last, channel(api.MaxCounter, last)},
		{"Top - 2", channel(20, 19), 18, channel(20, 18, 19)},
		{"Top - Window", channel(20, 19), 12, channel(20, 12, 19)},
		{"Top - Window, among all others", channel(20, all[1:]...), 12, channel(20, all...)},
		{"0, with a top of Window", channel(8, 7), 0, channel(8, 0, 7)},
		{"0, with a top of 2", channel(2, 1), 0, channel(2, 0, 1)},
		{"the last one, behind the one ahead of it", channel(last, last-1), last, channel(api.MaxCounter, last-1, last)},
		{"the one ahead of the last one", channel(api.MaxCounter, last), last - 1, channel(api.MaxCounter, last-1, last)},
		{"the lowest one at the end", channel(api.MaxCounter, last), last - 7, channel(api.MaxCounter, last-7, last)},
	} {
		got, plain := taken(t, c.from, record(t, pattern(32, 1), c.number, pattern(11, 2)))
		wantChannel(t, c.what, got, c.want)
		if !bytes.Equal(plain, pattern(11, 2)) {
			t.Errorf("%s: %x", c.what, plain)
		}
	}
}

// TestTakeOfOld: P6.4: numbers that were met or are below the window, told by hand.
func TestTakeOfOld(t *testing.T) {
	for _, c := range []struct {
		what   string
		from   api.Channel
		number int
	}{
		{"the only one", channel(1, 0), 0},
		{"Top - 1", channel(20, 19), 19},
		{"Top - Window, which was met", channel(20, 12, 19), 12},
		{"one below the window", channel(20, 19), 11},
		{"two below the window", channel(20, 19), 10},
		{"0, with a top of Window and one", channel(9, 8), 0},
		{"0, with a top of Window", channel(8, 0, 7), 0},
		{"0, far below", channel(1<<20, 1<<20-1), 0},
		{"0, at the end", channel(api.MaxCounter, last), 0},
		{"the last one", channel(api.MaxCounter, last), last},
		{"one below the last window", channel(api.MaxCounter, last), last - 8},
	} {
		r := record(t, pattern(32, 1), c.number, pattern(11, 2))
		got, plain, e := line.Take(c.from, r)
		wantRefused(t, c.what, got, plain, e, api.ErrOld)
		got, plain, e = line.Take(c.from, changed(r, 8*len(r)-1))
		wantRefused(t, c.what+", and the tag is wrong", got, plain, e, api.ErrOld)
	}
}

// TestTakeAtSizes: P6.4: records of 20 bytes and of MaxData and 20, and some between.
func TestTakeAtSizes(t *testing.T) {
	for _, n := range []int{0, 1, 2, 15, 16, 17, 63, 64, 65, 1000, api.MaxData - 1, api.MaxData} {
		r := record(t, pattern(32, 1), 4, pattern(n, 3))
		c, plain := taken(t, channel(3, 2), r)
		if len(r) != n+20 || !bytes.Equal(plain, pattern(n, 3)) {
			t.Errorf("%d bytes: %x", n, plain)
		}
		wantChannel(t, fmt.Sprint(n, " bytes"), c, channel(5, 2, 4))
	}
}

// TestTakeOfWrongSizes: P6.4: too long, or too short, whatever the number is, and whether it was met.
func TestTakeOfWrongSizes(t *testing.T) {
	heads := [][]byte{{0, 0, 0, 0}, {0, 0, 0, 19}, {0, 0, 0, 20}, {0x3f, 255, 255, 255}, {0x40, 0, 0, 0}, {255, 255, 255, 255}}
	for _, c := range []api.Channel{channel(0), channel(20, 12, 19), channel(api.MaxCounter, last)} {
		for _, head := range heads {
			for _, n := range []int{api.MaxData + 21, api.MaxData + 22, api.MaxData + 36, 2 * api.MaxData, 1 << 20} {
				got, plain, e := line.Take(c, append(bytes.Clone(head), make([]byte, n-headSize)...))
				wantRefused(t, fmt.Sprint("top ", c.Top, ", ", n, " bytes of ", head), got, plain, e, api.ErrSize)
			}
			for n := range 20 {
				r := append(bytes.Clone(head), pattern(16, 2)...)[:n]
				got, plain, e := line.Take(c, r)
				wantRefused(t, fmt.Sprint("top ", c.Top, ", ", n, " bytes of ", head), got, plain, e, api.ErrShort)
			}
		}
	}
	got, plain, e := line.Take(channel(0), nil)
	wantRefused(t, "nil", got, plain, e, api.ErrShort)
	r := record(t, pattern(32, 1), 0, nil)
	got, plain, e = line.Take(channel(0), r[:19])
	wantRefused(t, "a record without its last byte", got, plain, e, api.ErrShort)
}

// TestTakeOfGreatNumbers: P6.4: numbers that no record has, though they are sealed rightly, and though they are not.
func TestTakeOfGreatNumbers(t *testing.T) {
	for _, c := range []api.Channel{channel(0), channel(20, 12, 19), channel(last, last-1), channel(api.MaxCounter, last)} {
		for _, number := range []int{api.MaxCounter, api.MaxCounter + 1, 1<<31 - 1, 1 << 31, 1<<31 + 5, 0xc0000000, 1<<32 - 2, 1<<32 - 1} {
			for _, n := range []int{0, 9, api.MaxData} {
				r := record(t, pattern(32, 1), number, pattern(n, 2))
				what := fmt.Sprint("top ", c.Top, ", the number ", number)
				got, plain, e := line.Take(c, r)
				wantRefused(t, what, got, plain, e, api.ErrRange)
				got, plain, e = line.Take(c, changed(r, 8*len(r)-1))
				wantRefused(t, what+", and the tag is wrong", got, plain, e, api.ErrRange)
			}
		}
	}
}

// TestTakeAfterAnyBit: P6.4: a bit of the head, of what is sealed or of the tag is another; behind that the record is taken yet.
func TestTakeAfterAnyBit(t *testing.T) {
	for _, n := range []int{0, 1, 16, 33} {
		c := channel(20, 12, 19)
		r := record(t, pattern(32, 1), 20, pattern(n, 2))
		for bit := range 8 * len(r) {
			want := api.ErrTag
			switch bit {
			case 6, 7: // the highest bits of the number
				want = api.ErrRange
			case 24 + 4: // the number is 4
				want = api.ErrOld
			}
			got, plain, e := line.Take(c, changed(r, bit))
			wantRefused(t, fmt.Sprint(n, " bytes, the bit ", bit), got, plain, e, want)
		}
		next, plain := taken(t, c, r)
		wantChannel(t, "the right one", next, channel(21, 19, 20))
		if !bytes.Equal(plain, pattern(n, 2)) {
			t.Errorf("%d bytes: %x", n, plain)
		}
	}
}

// TestTakeAfterBitOfLongest: P6.4: bits of the longest record.
func TestTakeAfterBitOfLongest(t *testing.T) {
	c := channel(20, 19)
	r := record(t, pattern(32, 1), 300, pattern(api.MaxData, 2))
	for bit := 8 * headSize; bit < 8*len(r); bit += 61 {
		got, plain, e := line.Take(c, changed(r, bit))
		wantRefused(t, fmt.Sprint("the bit ", bit), got, plain, e, api.ErrTag)
	}
	got, plain, e := line.Take(c, changed(r, 8*len(r)-1))
	wantRefused(t, "the last bit", got, plain, e, api.ErrTag)
}

// TestTakeOfOthers: P6.4: the head of one record with what is sealed in another; a byte more or fewer; another's key.
func TestTakeOfOthers(t *testing.T) {
	c := channel(2, 1)
	one, other := record(t, pattern(32, 1), 4, pattern(30, 2)), record(t, pattern(32, 1), 5, pattern(30, 2))
	for what, r := range map[string][]byte{
		"another's head":       join(other[:headSize], one[headSize:]),
		"the tag of another":   join(one[:34], other[34:]),
		"a byte more":          join(one, []byte{0}),
		"a byte fewer":         one[:len(one)-1],
		"a byte more inside":   join(one[:34], []byte{0}, one[34:]),
		"a byte fewer inside":  join(one[:33], one[34:]),
		"another's key":        record(t, pattern(32, 2), 4, pattern(30, 2)),
		"a key but for a bit":  record(t, changed(pattern(32, 1), 255), 4, pattern(30, 2)),
		"a head alone":         join(one[:headSize], make([]byte, tagSize)),
		"the head from behind": join([]byte{4, 0, 0, 0}, one[headSize:]),
	} {
		got, plain, e := line.Take(c, r)
		wantRefused(t, what, got, plain, e, api.ErrTag)
	}
}
