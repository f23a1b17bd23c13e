package lines_test

import (
	"bytes"
	"fmt"
	"slices"
	"strings"
	"testing"

	"conclave/api"
	"conclave/lines"
)

// die: numbers that look drawn, the same each time.
type die uint64

func (d *die) upTo(most int) int {
	*d = *d*2862933555777941757 + 3037000493
	return int(uint64(*d>>33) % uint64(most+1))
}

// pattern: so many bytes, which differ from seed to seed.
func pattern(n, seed int) []byte {
	b := make([]byte, n)
	for i := range b {
		b[i] = byte((i*7 + seed*31 + 3) % 251)
	}
	return b
}

// submit, atNode, atPlace and crash: acts with what their words have.
func submit(node int, data ...byte) api.Act {
	return api.Act{Kind: api.Submit, Node: node, Data: data}
}

func atNode(kind, node int) api.Act { return api.Act{Kind: kind, Node: node} }

func atPlace(kind, at int) api.Act { return api.Act{Kind: kind, At: at} }

func crash(node, keep int) api.Act { return api.Act{Kind: api.Crash, Node: node, Keep: keep} }

// all: the act that has nothing but its word.
func all() api.Act { return api.Act{Kind: api.All} }

// same: are two acts the same? Data without bytes may be nil or not.
func same(a, b api.Act) bool {
	return a.Kind == b.Kind && a.Node == b.Node && a.At == b.At && a.Keep == b.Keep && bytes.Equal(a.Data, b.Data)
}

// copyOf acts, with Data of their own.
func copyOf(l []api.Act) []api.Act {
	out := slices.Clone(l)
	for i := range out {
		out[i].Data = bytes.Clone(out[i].Data)
	}
	return out
}

// brief: a text that is not too long.
func brief(text string) string {
	if len(text) > 80 {
		return fmt.Sprintf("%q .. %q of %d bytes", text[:40], text[len(text)-20:], len(text))
	}
	return fmt.Sprintf("%q", text)
}

// briefActs: acts as a text that is not too long.
func briefActs(l []api.Act) string {
	if len(l) > 6 {
		return fmt.Sprintf("%s .. of %d acts", brief(fmt.Sprint(l[:3])), len(l))
	}
	return brief(fmt.Sprint(l))
}

// wantShow: this text is shown, and nothing is wrong.
func wantShow(t *testing.T, what string, l []api.Act, want string) {
	t.Helper()
	if text, place, e := lines.Show(l); text != want || place != 0 || e != api.OK {
		t.Errorf("%s: Show: %s, %d, %d, want %s", what, brief(text), place, int(e), brief(want))
	}
}

// wantNoShow: the act at a place is refused.
func wantNoShow(t *testing.T, what string, l []api.Act, place int, want api.Errno) {
	t.Helper()
	if text, got, e := lines.Show(l); text != "" || got != place || e != want {
		t.Errorf("%s: Show: %s, %d, %d, want nothing, %d, %d", what, brief(text), got, int(e), place, int(want))
	}
}

// wantRead: these acts are read, and nothing is wrong.
func wantRead(t *testing.T, what, text string, want []api.Act) {
	t.Helper()
	if l, place, e := lines.Read(text); !slices.EqualFunc(l, want, same) || place != 0 || e != api.OK {
		t.Errorf("%s: Read: %s, %d, %d, want %s", what, briefActs(l), place, int(e), briefActs(want))
	}
}

// wantNoRead: the line at a place is refused.
func wantNoRead(t *testing.T, what, text string, place int, want api.Errno) {
	t.Helper()
	if l, got, e := lines.Read(text); len(l) != 0 || got != place || e != want {
		t.Errorf("%s: Read: %s, %d, %d, want nothing, %d, %d", what, briefActs(l), got, int(e), place, int(want))
	}
}

// wantBoth: these acts are shown as this text, and read of it.
func wantBoth(t *testing.T, what string, l []api.Act, text string) {
	t.Helper()
	wantShow(t, what, l, text)
	wantRead(t, what, text, l)
}

// told: acts and their lines, told by hand.
var told = []struct {
	act  api.Act
	line string
}{
	{submit(1, 0, 255), "submit 1 00ff\n"},
	{submit(0), "submit 0 \n"},
	{submit(4, 0), "submit 4 00\n"},
	{submit(0, 9), "submit 0 09\n"},
	{submit(0, 10), "submit 0 0a\n"},
	{submit(3, 15), "submit 3 0f\n"},
	{submit(3, 16), "submit 3 10\n"},
	{submit(2, 255), "submit 2 ff\n"},
	{submit(2, 0, 9, 10, 15, 16, 255), "submit 2 00090a0f10ff\n"},
	{submit(2, 255, 16, 15, 10, 9, 0), "submit 2 ff100f0a0900\n"},
	{submit(1, 0x0a, 0xa0, 0x12, 0x21, 0xde, 0xad), "submit 1 0aa01221dead\n"},
	{atNode(api.Lead, 0), "lead 0\n"},
	{atNode(api.Lead, 4), "lead 4\n"},
	{atNode(api.Step, 0), "step 0\n"},
	{atNode(api.Step, 1), "step 1\n"},
	{atNode(api.Step, 4), "step 4\n"},
	{atNode(api.Start, 0), "start 0\n"},
	{atNode(api.Start, 4), "start 4\n"},
	{atPlace(api.Carry, 0), "carry 0\n"},
	{atPlace(api.Carry, 9), "carry 9\n"},
	{atPlace(api.Carry, 10), "carry 10\n"},
	{atPlace(api.Carry, 1048576), "carry 1048576\n"},
	{atPlace(api.Lose, 0), "lose 0\n"},
	{atPlace(api.Lose, 99), "lose 99\n"},
	{atPlace(api.Lose, 100), "lose 100\n"},
	{atPlace(api.Lose, 1000000), "lose 1000000\n"},
	{atPlace(api.Lose, 1048576), "lose 1048576\n"},
	{atPlace(api.Double, 0), "double 0\n"},
	{atPlace(api.Double, 999999), "double 999999\n"},
	{atPlace(api.Double, 1048575), "double 1048575\n"},
	{atPlace(api.Double, 1048576), "double 1048576\n"},
	{all(), "all\n"},
	{crash(0, 0), "crash 0 0\n"},
	{crash(1, 7), "crash 1 7\n"},
	{crash(4, 9), "crash 4 9\n"},
	{crash(0, 10), "crash 0 10\n"},
	{crash(4, 99999), "crash 4 99999\n"},
	{crash(0, 100000), "crash 0 100000\n"},
	{crash(4, 100000), "crash 4 100000\n"},
}

// toldActs, and their text.
func toldActs() ([]api.Act, string) {
	var l []api.Act
	var text strings.Builder
	for _, x := range told {
		l = append(l, x.act)
		text.WriteString(x.line)
	}
	return copyOf(l), text.String()
}

// alls: so many lines of the shortest act.
func alls(n int) string { return strings.Repeat("all\n", n) }

// allActs: the acts of these lines.
func allActs(n int) []api.Act { return slices.Repeat([]api.Act{all()}, n) }

// TestTold: P11.1 to P11.4: acts of every kind may be, and have these lines; alone and one behind the other.
func TestTold(t *testing.T) {
	for _, x := range told {
		if e := lines.Check(x.act); e != api.OK {
			t.Errorf("%v: %d, want %d", x.act, int(e), int(api.OK))
		}
		wantBoth(t, fmt.Sprint(x.act), []api.Act{x.act}, x.line)
	}
	l, text := toldActs()
	wantBoth(t, "all that is told", l, text)
	slices.Reverse(l)
	text = ""
	for _, x := range slices.Backward(told) {
		text += x.line
	}
	wantBoth(t, "all that is told, backward", l, text)
}

// TestPairs: P11.3, P11.4: any act behind any other.
func TestPairs(t *testing.T) {
	for _, x := range told {
		for _, y := range told {
			wantBoth(t, x.line+y.line, []api.Act{x.act, y.act}, x.line+y.line)
		}
	}
}

// TestNothing: P11.3, P11.4: no acts are an empty text, and it is no acts.
func TestNothing(t *testing.T) {
	wantBoth(t, "nil", nil, "")
	wantBoth(t, "none", []api.Act{}, "")
	wantBoth(t, "none, with spare room", allActs(3)[:0], "")
}

// TestEveryByte: P11.2, P11.4: each byte of Data has two digits of its own.
func TestEveryByte(t *testing.T) {
	for n := range 256 {
		b := byte(n)
		wantBoth(t, fmt.Sprint("byte ", n), []api.Act{submit(0, b), submit(1, b, b^255, b)}, fmt.Sprintf("submit 0 %02x\nsubmit 1 %02x%02x%02x\n", b, b, b^255, b))
	}
}

// TestEveryNumber: P11.2, P11.4: numbers with any count of digits, up to their bounds.
func TestEveryNumber(t *testing.T) {
	for _, n := range []int{0, 1, 2, 8, 9, 10, 11, 19, 20, 90, 99, 100, 101, 109, 110, 999, 1000, 1001, 9999, 10000, 65535, 65536, 90009, 99999, 100000} {
		l := []api.Act{atPlace(api.Carry, n), atPlace(api.Lose, n), atPlace(api.Double, n), crash(3, n)}
		wantBoth(t, fmt.Sprint("number ", n), l, fmt.Sprintf("carry %d\nlose %d\ndouble %d\ncrash 3 %d\n", n, n, n, n))
	}
	for _, n := range []int{100001, 123456, 654321, 999999, 1000000, 1000001, 1048575, 1048576} {
		l := []api.Act{atPlace(api.Carry, n), atPlace(api.Lose, n), atPlace(api.Double, n)}
		wantBoth(t, fmt.Sprint("number ", n), l, fmt.Sprintf("carry %d\nlose %d\ndouble %d\n", n, n, n))
	}
	for n := range 5 {
		l := []api.Act{submit(n, 7), atNode(api.Lead, n), atNode(api.Step, n), atNode(api.Start, n), crash(n, 1)}
		wantBoth(t, fmt.Sprint("node ", n), l, fmt.Sprintf("submit %d 07\nlead %d\nstep %d\nstart %d\ncrash %d 1\n", n, n, n, n, n))
	}
}

// TestSizesOfData: P11.2, P11.4: Data from no bytes to MaxData.
func TestSizesOfData(t *testing.T) {
	for _, n := range []int{0, 1, 2, 3, 255, 256, 1999, 2000} {
		b := pattern(n, n)
		wantBoth(t, fmt.Sprint(n, " bytes"), []api.Act{submit(4, b...)}, fmt.Sprintf("submit 4 %x\n", b))
	}
}

// TestMostSteps: P11.3, P11.4: as many acts as may be.
func TestMostSteps(t *testing.T) {
	wantBoth(t, "MaxSteps", allActs(100000), alls(100000))
	var l []api.Act
	var text strings.Builder
	for len(l) < 100000 {
		x := told[len(l)%len(told)]
		l = append(l, x.act)
		text.WriteString(x.line)
	}
	wantBoth(t, "MaxSteps of every kind", l, text.String())
}
