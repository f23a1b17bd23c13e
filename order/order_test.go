package order_test

import (
	"bytes"
	"encoding/hex"
	"math"
	"testing"

	"conclave/api"
	"conclave/order"
)

// pattern: n bytes that differ from seed to seed.
func pattern(n, seed int) []byte {
	b := make([]byte, n)
	for i := range b {
		b[i] = byte((i*7 + seed*31 + 3) % 251)
	}
	return b
}

// join lists, in new memory.
func join(lists ...[]byte) []byte { return bytes.Join(lists, nil) }

// unhex: the bytes of a text in base 16.
func unhex(t *testing.T, text string) []byte {
	t.Helper()
	b, err := hex.DecodeString(text)
	if err != nil {
		t.Fatal(err)
	}
	return b
}

// changed: a copy in which a bit is another.
func changed(b []byte, bit int) []byte {
	b = bytes.Clone(b)
	b[bit/8] ^= 1 << (bit % 8)
	return b
}

// far: numbers that no field of anything may be.
var far = []int{
	-1, -2, -8, -256, math.MinInt32, -1 << 32, math.MinInt + 1, math.MinInt,
	api.MaxValue + 1, 1 << 31, 1<<32 - 1, 1 << 32, 1<<32 + 1, 1 << 40, math.MaxInt - 1, math.MaxInt,
}

// put, get and revoke: commands of each kind.
func put(client, seq, name, value int) api.Command {
	return api.Command{Kind: api.Put, Client: client, Seq: seq, Name: name, Value: value}
}

func get(client, seq, name int) api.Command {
	return api.Command{Kind: api.Get, Client: client, Seq: seq, Name: name}
}

func revoke(client, seq, name int) api.Command {
	return api.Command{Kind: api.Revoke, Client: client, Seq: seq, Name: name}
}

// rightCommands: commands that may be, with their numbers at the bounds and beside them.
func rightCommands() []api.Command {
	all := []api.Command{{}}
	for _, client := range []int{0, 1, 6, api.MaxClient} {
		for _, seq := range []int{0, 1, 255, 256, 65535, 65536, api.MaxSeq - 1, api.MaxSeq} {
			for _, name := range []int{0, 1, 6, 7} {
				all = append(all, get(client, seq, name), revoke(client, seq, name))
				for _, value := range []int{0, 1, 255, 256, 0x01020304, api.MaxValue - 1, api.MaxValue} {
					all = append(all, put(client, seq, name, value))
				}
			}
		}
	}
	return all
}

// wrongCommand: a command that may not be, and what it is refused with.
type wrongCommand struct {
	what api.Command
	want api.Errno
}

// edgesOfCommands: one beyond each bound that the chapter names, one wrong at a time.
var edgesOfCommands = []wrongCommand{
	{api.Command{Kind: -1}, api.ErrKind},
	{api.Command{Kind: 4}, api.ErrKind},
	{api.Command{Client: 1}, api.ErrForm},
	{api.Command{Seq: 1}, api.ErrForm},
	{api.Command{Name: 1}, api.ErrForm},
	{api.Command{Value: 1}, api.ErrForm},
	{api.Command{Client: -1}, api.ErrForm},
	{api.Command{Seq: -1}, api.ErrForm},
	{api.Command{Name: -1}, api.ErrForm},
	{api.Command{Value: -1}, api.ErrForm},
	{put(-1, 0, 0, 0), api.ErrRange},
	{put(8, 0, 0, 0), api.ErrRange},
	{put(0, -1, 0, 0), api.ErrRange},
	{put(0, 1<<20+1, 0, 0), api.ErrRange},
	{put(0, 0, -1, 0), api.ErrRange},
	{put(0, 0, 8, 0), api.ErrRange},
	{put(0, 0, 0, -1), api.ErrRange},
	{put(0, 0, 0, 1<<30+1), api.ErrRange},
	{get(-1, 0, 0), api.ErrRange},
	{get(8, 0, 0), api.ErrRange},
	{get(0, -1, 0), api.ErrRange},
	{get(0, 1<<20+1, 0), api.ErrRange},
	{get(0, 0, -1), api.ErrRange},
	{get(0, 0, 8), api.ErrRange},
	{revoke(-1, 0, 0), api.ErrRange},
	{revoke(8, 0, 0), api.ErrRange},
	{revoke(0, -1, 0), api.ErrRange},
	{revoke(0, 1<<20+1, 0), api.ErrRange},
	{revoke(0, 0, -1), api.ErrRange},
	{revoke(0, 0, 8), api.ErrRange},
	{api.Command{Kind: api.Get, Value: 1}, api.ErrForm},
	{api.Command{Kind: api.Get, Value: 1 << 30}, api.ErrForm},
	{api.Command{Kind: api.Get, Value: 1<<30 + 1}, api.ErrRange},
	{api.Command{Kind: api.Get, Value: -1}, api.ErrRange},
	{api.Command{Kind: api.Revoke, Value: 1}, api.ErrForm},
	{api.Command{Kind: api.Revoke, Value: 1 << 30}, api.ErrForm},
	{api.Command{Kind: api.Revoke, Value: 1<<30 + 1}, api.ErrRange},
	{api.Command{Kind: api.Revoke, Value: -1}, api.ErrRange},
}

// twoWrongs: two or more are wrong at once.
var twoWrongs = []wrongCommand{
	{api.Command{Kind: 4, Client: 8}, api.ErrKind},
	{api.Command{Kind: 4, Value: 1}, api.ErrKind},
	{api.Command{Kind: -1, Client: -1, Seq: -1, Name: -1, Value: -1}, api.ErrKind},
	{api.Command{Kind: 5, Client: 8, Seq: 1<<20 + 1, Name: 8, Value: 1<<30 + 1}, api.ErrKind},
	{api.Command{Client: 8}, api.ErrForm},
	{api.Command{Seq: 1<<20 + 1}, api.ErrForm},
	{api.Command{Name: 8}, api.ErrForm},
	{api.Command{Value: 1<<30 + 1}, api.ErrForm},
	{api.Command{Client: 1, Seq: 2, Name: 3, Value: 4}, api.ErrForm},
	{api.Command{Client: 1, Seq: -1}, api.ErrForm},
	{put(8, 1<<20+1, 8, 1<<30+1), api.ErrRange},
	{api.Command{Kind: api.Get, Client: 8, Value: 1}, api.ErrRange},
	{api.Command{Kind: api.Get, Seq: 1<<20 + 1, Value: 1}, api.ErrRange},
	{api.Command{Kind: api.Get, Name: 8, Value: 1}, api.ErrRange},
	{api.Command{Kind: api.Get, Client: -1, Value: 1}, api.ErrRange},
	{api.Command{Kind: api.Revoke, Client: 8, Value: 1}, api.ErrRange},
	{api.Command{Kind: api.Revoke, Seq: -1, Value: 1}, api.ErrRange},
	{api.Command{Kind: api.Revoke, Name: 8, Value: 1}, api.ErrRange},
}

// farCommands: each number, of each kind, far beyond what it may be.
func farCommands() []wrongCommand {
	var all []wrongCommand
	for _, n := range far {
		all = append(all, wrongCommand{api.Command{Kind: n}, api.ErrKind})
		for kind := api.Noop; kind <= api.Revoke; kind++ {
			want := api.ErrRange
			if kind == api.Noop {
				want = api.ErrForm
			}
			all = append(all,
				wrongCommand{api.Command{Kind: kind, Client: n}, want},
				wrongCommand{api.Command{Kind: kind, Seq: n}, want},
				wrongCommand{api.Command{Kind: kind, Name: n}, want},
				wrongCommand{api.Command{Kind: kind, Value: n}, want})
		}
	}
	return all
}

// wrongCommands: all of them.
func wrongCommands() []wrongCommand {
	return append(append(farCommands(), edgesOfCommands...), twoWrongs...)
}

// TestCheck: P7.1: commands of each kind, at the bounds of their numbers.
func TestCheck(t *testing.T) {
	for _, c := range rightCommands() {
		if e := order.Check(c); e != api.OK {
			t.Errorf("%v: %d, want %d", c, int(e), int(api.OK))
		}
	}
}

// TestCheckRefuses: P7.1: commands that may not be, by one number or by several.
func TestCheckRefuses(t *testing.T) {
	for _, c := range wrongCommands() {
		if e := order.Check(c.what); e != c.want {
			t.Errorf("%v: %d, want %d", c.what, int(e), int(c.want))
		}
	}
}
