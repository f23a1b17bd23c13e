package lines_test

import (
	"bytes"
	"fmt"
	"slices"
	"strings"
	"testing"

	"conclave/api"
	"conclave/lines"
)

// scribble over bytes and their spare room.
func scribble(b []byte) {
	b = b[:cap(b)]
	for i := range b {
		b[i] ^= 0xa5
	}
}

// scribbleAll over acts, their Data, and the spare room of both.
func scribbleAll(l []api.Act) {
	l = l[:cap(l)]
	for i := range l {
		scribble(l[i].Data)
		l[i] = api.Act{Kind: -7, Node: -7, At: -7, Keep: -7}
	}
}

// someScripts: scripts that are shown, and ones that are refused.
func someScripts() map[string][]api.Act {
	l, _ := toldActs()
	first, midst, last := copyOf(l), copyOf(l), copyOf(l)
	first[0].Kind, midst[9].Node, last[len(l)-1].At = 0, 5, 1
	long := copyOf(l)
	long[3].Data = pattern(2000, 1)
	tooLong := copyOf(l)
	tooLong[3].Data = pattern(2001, 1)
	return map[string][]api.Act{
		"nil": nil, "none": {}, "one": {submit(1, 0, 255)}, "told": l, "first": first, "midst": midst, "last": last,
		"long": long, "too long": tooLong, "all": allActs(100000), "too many": allActs(100001),
	}
}

// withRoom: acts with others behind them as spare room, and all Data in one list of bytes, each with the others behind it as its spare room.
func withRoom(l []api.Act) ([]api.Act, []byte) {
	behind, _ := toldActs()
	room := slices.Concat(l, behind)
	var all []byte
	for _, a := range room {
		all = append(all, a.Data...)
	}
	at := 0
	for i, a := range room {
		room[i].Data = all[at : at+len(a.Data)]
		at += len(a.Data)
	}
	return room, all
}

// TestActsStay: P11.1, P11.3: the acts that are handed in, their Data, and what is behind these, are not changed, and not kept.
func TestActsStay(t *testing.T) {
	for what, l := range someScripts() {
		room, all := withRoom(l)
		before, saved := copyOf(room), bytes.Clone(all)
		stays := func(by string) {
			if !slices.EqualFunc(room, before, same) || !bytes.Equal(all, saved) {
				t.Fatalf("%s: what was handed in is changed by %s", what, by)
			}
		}
		text, place, e := lines.Show(room[:len(l)])
		stays("Show")
		for _, a := range room {
			lines.Check(a)
		}
		stays("Check")
		said := strings.Clone(text)
		again, p, f := lines.Show(room[:len(l)])
		if again != said || p != place || f != e {
			t.Fatalf("%s: %s, and then %s", what, brief(said), brief(again))
		}
		scribbleAll(room)
		if text != said || again != said {
			t.Errorf("%s: a text hangs on what was handed in", what)
		}
		if bare, p, f := lines.Show(l); bare != said || p != place || f != e {
			t.Errorf("%s: %s, without spare room %s", what, brief(said), brief(bare))
		}
	}
}

// someTexts: texts that are read, and ones that are refused.
func someTexts() map[string]string {
	_, text := toldActs()
	most, _ := mostText()
	return map[string]string{
		"empty": "", "one": "submit 1 00ff\n", "told": text, "told twice": text + text, "first": "x\n" + text, "last": text + "x\n", "no end": text + "all",
		"all": alls(100000), "too many": alls(100001), "most": most, "too much": most + "\n",
		"empty Data": strings.Repeat("submit 0 \n", 50), "short Data": strings.Repeat("submit 0 01\n", 50), "long Data": strings.Repeat("submit 3 "+strings.Repeat("ab", 2000)+"\n", 9),
	}
}

// TestReadIsNew: P11.4: what is read is new memory, spare room too: it hangs on no other answer, and nothing is kept.
func TestReadIsNew(t *testing.T) {
	for what, text := range someTexts() {
		given := strings.Clone(text)
		first, place, e := lines.Read(given)
		second, p, f := lines.Read(given)
		want := copyOf(second)
		if !slices.EqualFunc(first, second, same) || place != p || e != f {
			t.Fatalf("%s: %s, and then %s", what, briefActs(first), briefActs(second))
		}
		scribbleAll(first)
		if given != text {
			t.Fatalf("%s: the text is changed", what)
		}
		if !slices.EqualFunc(second, want, same) {
			t.Errorf("%s: an answer hangs on another", what)
		}
		if third, p, f := lines.Read(given); !slices.EqualFunc(third, want, same) || place != p || e != f {
			t.Errorf("%s: behind a scribble %s, want %s", what, briefActs(third), briefActs(want))
		}
	}
}

// TestDataOfOneAnswer: P11.4: no two Data of one answer share memory, their spare room neither.
func TestDataOfOneAnswer(t *testing.T) {
	for _, what := range []string{"told", "told twice", "empty Data", "short Data", "long Data"} {
		text := someTexts()[what]
		want, _, _ := lines.Read(text)
		want = copyOf(want)
		for place := range want {
			l, _, _ := lines.Read(text)
			scribble(l[place].Data)
			for i, a := range l {
				if i != place && !same(a, want[i]) {
					t.Fatalf("%s: the Data at %d hang on those at %d", what, i, place)
				}
			}
			for i := range l {
				l[i].Data = append(l[i].Data, 1, 2, 3)
			}
			for i, a := range l {
				if i != place && !bytes.Equal(a.Data, append(bytes.Clone(want[i].Data), 1, 2, 3)) {
					t.Fatalf("%s: what is put behind Data is seen in others", what)
				}
			}
		}
	}
}

// TestSharedData: P11.3: acts whose Data are the same memory are shown one by one.
func TestSharedData(t *testing.T) {
	b := []byte{1, 2, 3, 250}
	l := []api.Act{submit(0, b...), submit(1, b[:2]...), submit(2, b[1:]...), submit(3, b[:0]...), submit(4, b...)}
	wantShow(t, "shared", l, "submit 0 010203fa\nsubmit 1 0102\nsubmit 2 0203fa\nsubmit 3 \nsubmit 4 010203fa\n")
}

// TestOneBehindTheOther: nothing is kept from call to call, whatever was refused in between.
func TestOneBehindTheOther(t *testing.T) {
	l, text := toldActs()
	for _, x := range wrongActs() {
		lines.Show([]api.Act{submit(1, 9), x.act})
		lines.Read("all\nsubmit 1 0102\n" + fmt.Sprint(x.want))
	}
	wantBoth(t, "behind much that was refused", l, text)
}
