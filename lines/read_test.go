package lines_test

import (
	"fmt"
	"regexp"
	"slices"
	"strconv"
	"strings"
	"testing"

	"conclave/api"
	"conclave/lines"
)

// noLines: what stands ahead of a line feed, and is no act's line.
var noLines = []string{
	// words
	"", "x", "al", "alll", "allx", "xall", "All", "ALL", "aLl", "a", "none", "noop", "put", "0", "1", "7",
	"Submit 0 00", "SUBMIT 0 00", "Lead 0", "STEP 0", "Start 0", "Carry 0", "Lose 0", "Double 0", "CRASH 0 0",
	"submi 0 00", "submits 0 00", "lea 0", "leader 0", "ste 0", "steps 0", "st 0", "sta 0", "star 0", "starts 0", "steal 0",
	"carr 0", "carryx 0", "los 0", "lost 0", "loser 0", "doubl 0", "doubles 0", "cras 0 0", "crashe 0 0", "c 0", "s 0",
	"submit0 00", "lead0", "step1", "carry1", "crash1 1", "1 step", "step\x00 1", "st\xc3\xa9p 1", "\xffstep 1", "l\xc3\xaad 0",
	// without their numbers, or with one too many
	"submit", "submit ", "submit 00", "submit 1", "submit  00", "submit 1 2 00", "submit 1 00 00", "submit 1 0 0",
	"lead", "lead ", "lead 1 1", "lead 1 00", "step", "step ", "step 1 1", "step 1 ", "start", "start ", "start 1 1", "start 0 0",
	"carry", "carry ", "carry 1 1", "carry 0 0", "lose", "lose ", "lose 1 1", "double", "double ", "double 1 1",
	"all 0", "all 1", "all ", "all 00", "all all", "crash", "crash ", "crash 1", "crash 1 ", "crash 1 1 1", "crash 1 1 00", "crash 1 1 ",
	"step 1 2 3 4 5 6 7 8 9", "crash 1 2 3 4 5 6 7", "submit 1 00 1 1 1 1 1 1",
	// numbers
	"step 00", "step 01", "step 04", "step 001", "carry 00", "carry 09", "carry 010", "carry 01048576", "crash 00 0", "crash 01 0", "crash 0 00", "crash 0 01", "submit 00 00", "submit 01 00",
	"step +0", "step +1", "step -0", "step -1", "carry +5", "carry -5", "crash 1 -1", "crash 1 +1", "crash -1 1", "crash +1 1", "submit -1 00", "submit +1 00",
	"step a", "step 1a", "step a1", "step x", "step 0x1", "carry 1a", "carry a", "carry 1a1", "carry 0x10", "carry 1e3", "carry 1_000", "carry 1,000", "carry 1.0", "carry 1.", "carry .5", "carry f", "crash 1 a", "crash a 1", "crash 1 1a", "submit a 00", "submit 1a 00", "carry \xd9\xa1", "carry \xef\xbc\x91", "carry 1/", "carry 1:", "step /", "step :",
	"step 5", "step 6", "step 9", "step 10", "step 40", "step 44", "lead 5", "start 5", "submit 5 00", "submit 5 ", "submit 10 00", "crash 5 0", "crash 10 0",
	"carry 1048577", "carry 1048580", "carry 1050000", "carry 2000000", "carry 9999999", "carry 10000000", "carry 10485760", "lose 1048577", "double 1048577", "double 9999999",
	"crash 0 100001", "crash 0 100010", "crash 0 200000", "crash 0 999999", "crash 0 1000000", "crash 4 1048576",
	"step 18446744073709551616", "step 18446744073709551617", "step 18446744073709551620", "carry 18446744073709551616", "carry 18446744073709551617", "carry 9223372036854775807", "carry 9223372036854775808", "carry 4294967296", "carry 4294967297", "carry 36893488147419103232", "carry 340282366920938463463374607431768211456", "carry 340282366920938463463374607431768211457",
	"crash 1 18446744073709551616", "crash 1 18446744073709551623", "crash 18446744073709551617 1", "crash 4294967297 1", "submit 18446744073709551617 00", "submit 4294967296 00",
	// blanks and their like
	"step  1", " step 1", "step 1 ", "  step 1", "step 1  ", " all", "all  ", " ", "  ", "      ", "crash  1 1", "crash 1  1", "crash 1 1  ", " crash 1 1", "submit  1 00", "submit 1  00", "submit 1 00 ", " submit 1 00", "submit 1  ", "submit 1 0 0", "submit 1 00 ff", "submit 1 00f f", "submit 100", "submit 1ff",
	"step\t1", "\tstep 1", "step 1\t", "step \t1", "all\t", "\tall", "\t", "crash 1\t1", "submit 1\t00", "submit 1 \t", "submit 1 00\t", "submit\t1 00",
	"step 1\r", "all\r", "\rall", "\r", "crash 1 1\r", "submit 1 00\r", "submit 1 \r", "lead 0\r", "all\v", "all\f", "all\x00", "\x00", "all\xc2\xa0", "step\xc2\xa01", "\xef\xbb\xbfall", "step 1\u2028",
	// Data
	"submit 1 0", "submit 1 f", "submit 1 000", "submit 1 00f", "submit 1 00ff0", "submit 1 0F", "submit 1 F0", "submit 1 FF", "submit 1 00Ff", "submit 1 fFff", "submit 1 0A", "submit 1 A0",
	"submit 1 0g", "submit 1 g0", "submit 1 gg", "submit 1 00g0", "submit 1 0z", "submit 1 -1", "submit 1 +1", "submit 1 0x", "submit 1 0x00", "submit 1 ..", "submit 1 0/", "submit 1 0:", "submit 1 /0", "submit 1 :0", "submit 1 0`", "submit 1 `0", "submit 1 0@", "submit 1 0G", "submit 1 \xc3\xa9", "submit 1 \x00\x00", "submit 1 \xff\xff", "submit 1 00\x00",
}

// longNoLines: lines that are too long for any act, and hold nothing else that is wrong.
func longNoLines() []string {
	return []string{
		"submit 0 " + strings.Repeat("00", 2001),
		"submit 4 " + strings.Repeat("5a", 2002),
		"submit 0 " + strings.Repeat("0", 4001),
		"submit 0 " + strings.Repeat("0", 3999),
		"submit 0 " + strings.Repeat("ff", 1999000),
		"submit 0 " + strings.Repeat("ff", 1999) + "fg",
		"submit 0 g" + strings.Repeat("f", 3999),
		"submit 0 " + strings.Repeat("ff", 1000) + "FF" + strings.Repeat("ff", 999),
		"carry " + strings.Repeat("1", 3000000),
		"carry " + strings.Repeat("0", 3000000),
		"carry " + strings.Repeat("9", 20),
		"crash 1 " + strings.Repeat("18446744073709551616", 100000),
		"step " + strings.Repeat(" ", 3000000),
		strings.Repeat(" ", 3900000),
		strings.Repeat("all", 1000000),
		strings.Repeat("all ", 900000),
		strings.Repeat("\x00", 3900000),
	}
}

// TestReadRefusesLines: P11.4: a line that is none at the first place, in the midst and at the last.
func TestReadRefusesLines(t *testing.T) {
	for _, body := range append(longNoLines(), noLines...) {
		line := body + "\n"
		what := brief(line)
		wantNoRead(t, what, line, 0, api.ErrForm)
		wantNoRead(t, what+" first", line+"all\nstep 1\n", 0, api.ErrForm)
		wantNoRead(t, what+" in the midst", "submit 1 00ff\nall\n"+line+"all\n", 2, api.ErrForm)
		wantNoRead(t, what+" last", "submit 1 \ncrash 1 1\ncarry 10\nall\n"+line, 4, api.ErrForm)
	}
}

// TestReadRefusesTheFirst: P11.4: of two lines that are none the first is refused.
func TestReadRefusesTheFirst(t *testing.T) {
	for _, body := range noLines {
		line := body + "\n"
		wantNoRead(t, "two", line+line, 0, api.ErrForm)
		wantNoRead(t, "two with one between", "all\n"+line+"all\n"+line, 1, api.ErrForm)
		wantNoRead(t, "another behind it", "all\nall\n"+line+"step 01\nall", 2, api.ErrForm)
		wantNoRead(t, "another ahead of it", "all\nstep 01\n"+line, 1, api.ErrForm)
	}
}

// TestReadOfLastLines: P11.4: a last line without a line feed is none, whatever it is; what is behind the last line feed is a line only where there is something.
func TestReadOfLastLines(t *testing.T) {
	for _, x := range told {
		body := strings.TrimSuffix(x.line, "\n")
		wantNoRead(t, "alone: "+body, body, 0, api.ErrForm)
		wantNoRead(t, "behind one: "+body, "all\n"+body, 1, api.ErrForm)
		wantNoRead(t, "behind three: "+body, "all\nstep 2\n"+x.line+body, 3, api.ErrForm)
		wantNoRead(t, "without the line feed between: "+body, body+"all\n", 0, api.ErrForm)
		wantRead(t, "with it: "+body, "all\n"+x.line, []api.Act{all(), x.act})
	}
	wantNoRead(t, "a line feed alone", "\n", 0, api.ErrForm)
	wantNoRead(t, "two line feeds", "\n\n", 0, api.ErrForm)
	wantNoRead(t, "an empty line first", "\nall\n", 0, api.ErrForm)
	wantNoRead(t, "an empty line in the midst", "all\n\nall\n", 1, api.ErrForm)
	wantNoRead(t, "an empty line at the end", "all\nall\n\n", 2, api.ErrForm)
	wantNoRead(t, "a line feed ahead of Data", "submit 1\n 00\n", 0, api.ErrForm)
	wantNoRead(t, "a carriage return instead", "all\rall\r", 0, api.ErrForm)
	wantNoRead(t, "a carriage return as well", "all\r\nall\r\n", 0, api.ErrForm)
	wantNoRead(t, "a carriage return behind", "all\n\rall\n", 1, api.ErrForm)
}

// TestReadOfTooManyLines: P11.4: ErrFull at the line that has MaxSteps lines ahead of it, whether it is an act's or not.
func TestReadOfTooManyLines(t *testing.T) {
	for _, behind := range []string{"all\n", "step 1\n", "\n", "x\n", " all\n", "step 5\n", "step 01\n", "submit 1\n", "submit 1 0\n", "all\nall\n", "all", "x", " ", "\r", "\n\n", "all\n\n", "submit 1 00ff\ncrash 1 1\nall", "x\nx\nx\n"} {
		wantNoRead(t, brief(behind), alls(100000)+behind, 100000, api.ErrFull)
	}
	wantNoRead(t, "many more", alls(1000000), 100000, api.ErrFull)
	wantNoRead(t, "nothing but line feeds behind", alls(100000)+strings.Repeat("\n", 3600000), 100000, api.ErrFull)
}

// TestReadOfTooManyRefuses: P11.4: a line that is none ahead of those that are too many is refused first.
func TestReadOfTooManyRefuses(t *testing.T) {
	for _, place := range []int{0, 1, 50000, 99998, 99999} {
		for _, bad := range []string{"\n", "step 5\n"} {
			ahead := alls(place) + bad + alls(99999-place)
			what := fmt.Sprint(brief(bad), " at ", place)
			wantNoRead(t, what+" of MaxSteps", ahead, place, api.ErrForm)
			wantNoRead(t, what+" of one more", ahead+"all\n", place, api.ErrForm)
			wantNoRead(t, what+" of one more that is none", ahead+bad, place, api.ErrForm)
			wantNoRead(t, what+" of many more", ahead+alls(50000), place, api.ErrForm)
		}
	}
	wantNoRead(t, "the last of MaxSteps without a line feed", alls(99999)+"all", 99999, api.ErrForm)
	wantNoRead(t, "nothing but line feeds", strings.Repeat("\n", 4000000), 0, api.ErrForm)
}

// mostText: MaxText bytes of lines, and the acts of these.
func mostText() (string, []api.Act) {
	var text strings.Builder
	var l []api.Act
	for place := range 998 {
		size := 2000
		if place == 997 {
			size = 1010 // which is what is left
		}
		a := submit(place%5, pattern(size, place)...)
		fmt.Fprintf(&text, "submit %d %x\n", a.Node, a.Data)
		l = append(l, a)
	}
	return text.String(), l
}

// TestReadOfMostText: P11.4: a text of MaxText bytes is read.
func TestReadOfMostText(t *testing.T) {
	text, l := mostText()
	if len(text) != 4000000 {
		t.Fatalf("the text has %d bytes", len(text))
	}
	wantBoth(t, "MaxText", l, text)
	wantNoRead(t, "MaxText, and no line feed at the end", text[:3999999]+"0", 997, api.ErrForm)
	wantNoRead(t, "MaxText, and wrong at the beginning", "S"+text[1:], 0, api.ErrForm)
	wantNoRead(t, "MaxText without a line", strings.Repeat("a", 4000000), 0, api.ErrForm)
	wantNoRead(t, "one byte less", text[:3999999], 997, api.ErrForm)
	wantNoRead(t, "MaxText of short lines", alls(1000000), 100000, api.ErrFull)
}

// TestReadOfTooMuchText: P11.4: more than MaxText bytes, with the place 0, whatever they are.
func TestReadOfTooMuchText(t *testing.T) {
	text, _ := mostText()
	for what, s := range map[string]string{
		"a line feed":                text + "\n",
		"a byte":                     text + "a",
		"a longer number":            "submit 00" + text[8:],
		"a line":                     text + "all\n",
		"wrong at the beginning":     "x" + text,
		"too many lines as well":     alls(1000000) + "\n",
		"wrong and too many":         "x\n" + alls(1000000),
		"no line":                    strings.Repeat("a", 4000001),
		"nothing but line feeds":     strings.Repeat("\n", 4000001),
		"much more":                  strings.Repeat(text, 3),
		"one more of many shorts":    "step 1\nall" + alls(999998),
		"a line that is none behind": text + "x\n",
	} {
		if len(s) <= 4000000 {
			t.Fatalf("%s: the text has %d bytes", what, len(s))
		}
		wantNoRead(t, what, s, 0, api.ErrSize)
	}
}

// form of an act's line; the numbers of several digits are bounded apart from it.
var form = regexp.MustCompile(`\A(?:submit [0-4] (?:[0-9a-f]{2})*|(?:lead|step|start) [0-4]|(?:carry|lose|double) (0|[1-9][0-9]{0,6})|all|crash [0-4] (0|[1-9][0-9]{0,5}))\n\z`)

// isLine: is a text an act's line? Worked out apart from the program.
func isLine(line string) bool {
	m := form.FindStringSubmatch(line)
	if m == nil || len(line) > 10+4000 {
		return false
	}
	at, _ := strconv.Atoi(m[1])
	keep, _ := strconv.Atoi(m[2])
	return at <= 1048576 && keep <= 100000
}

// firstNoLine: the place of the first line that is none; -1: there is none.
func firstNoLine(text string) int {
	return slices.IndexFunc(slices.Collect(strings.Lines(text)), func(line string) bool { return !isLine(line) })
}

// act that is drawn, and its line.
func (d *die) act() (api.Act, string) {
	names := []string{"", "submit", "lead", "step", "carry", "lose", "double", "all", "crash", "start"}
	kind := 1 + d.upTo(8)
	number := func(most int) int { return []int{0, 9, 10, most, d.upTo(most), d.upTo(99)}[d.upTo(5)] }
	switch kind {
	case api.Submit:
		a := submit(d.upTo(4), pattern(d.upTo(6), d.upTo(99))...)
		return a, fmt.Sprintf("submit %d %x\n", a.Node, a.Data)
	case api.Carry, api.Lose, api.Double:
		a := atPlace(kind, number(1048576))
		return a, fmt.Sprintf("%s %d\n", names[kind], a.At)
	case api.All:
		return all(), "all\n"
	case api.Crash:
		a := crash(d.upTo(4), number(100000))
		return a, fmt.Sprintf("crash %d %d\n", a.Node, a.Keep)
	}
	a := atNode(kind, d.upTo(4))
	return a, fmt.Sprintf("%s %d\n", names[kind], a.Node)
}

// script that is drawn, and its text.
func (d *die) script(most int) ([]api.Act, string) {
	var l []api.Act
	text := ""
	for range d.upTo(most) {
		a, line := d.act()
		l, text = append(l, a), text+line
	}
	return l, text
}

// TestDrawnScripts: P11.2 to P11.4: scripts that are shown and read back.
func TestDrawnScripts(t *testing.T) {
	d := die(5)
	for range 3000 {
		l, text := d.script(12)
		wantBoth(t, "a script", l, text)
	}
}

// spoilt: a text with something put in, taken out, made another, or moved.
func (d *die) spoilt(text string) string {
	if text == "" {
		return text
	}
	pieces := []string{" ", "0", "1", "9", "f", "A", "\n", "\r", "-", "all", "st", "\n\n", "\t", "4", "5"}
	from := d.upTo(len(text) - 1)
	piece := pieces[d.upTo(len(pieces)-1)]
	switch d.upTo(3) {
	case 0:
		return text[:from] + piece + text[from:]
	case 1:
		return text[:from] + piece + text[from+1:]
	case 2:
		return text[:from]
	}
	to := min(len(text), from+1+d.upTo(3))
	return text[:from] + text[to:]
}

// TestSpoiltTexts: P11.4: texts that are acts' lines but for one or two changes, held against what is worked out apart from the program; what is read is shown as it was.
func TestSpoiltTexts(t *testing.T) {
	d := die(7)
	read, refused := 0, 0
	for range 60000 {
		_, text := d.script(6)
		for range 1 + d.upTo(1) {
			text = d.spoilt(text)
		}
		place := firstNoLine(text)
		if place >= 0 {
			refused++
			wantNoRead(t, brief(text), text, place, api.ErrForm)
			continue
		}
		read++
		l, got, e := lines.Read(text)
		if got != 0 || e != api.OK || len(l) != strings.Count(text, "\n") {
			t.Errorf("%q: %v, %d, %d", text, l, got, int(e))
		}
		wantShow(t, brief(text), l, text)
	}
	if read < 10000 || refused < 10000 {
		t.Errorf("%d were read, and %d refused", read, refused)
	}
}

// TestEveryByteInALine: P11.4: any byte in place of any other, or between any two.
func TestEveryByteInALine(t *testing.T) {
	for _, line := range []string{"submit 1 0fa9\n", "submit 0 \n", "lead 3\n", "carry 10\n", "lose 1048576\n", "all\n", "crash 2 100000\n", "start 0\n"} {
		for place := range len(line) {
			for b := range 256 {
				c := string([]byte{byte(b)})
				for _, text := range []string{line[:place] + c + line[place+1:], line[:place] + c + line[place:], line + c} {
					l, got, e := lines.Read(text)
					if want := firstNoLine(text); want >= 0 && (got != want || e != api.ErrForm || len(l) != 0) {
						t.Errorf("%q: %v, %d, %d, want nothing, %d, %d", text, l, got, int(e), want, int(api.ErrForm))
					} else if want < 0 {
						wantShow(t, text, l, text)
					}
				}
			}
		}
	}
}

// FuzzRead: P11.4: any text is read as what it shows, or refused at a place that it has.
func FuzzRead(f *testing.F) {
	for _, x := range told {
		f.Add(x.line)
	}
	for _, body := range noLines {
		f.Add(body + "\n")
	}
	f.Fuzz(func(t *testing.T, text string) {
		place := firstNoLine(text)
		if len(text) > api.MaxText || strings.Count(text, "\n") >= api.MaxSteps {
			return
		}
		if place >= 0 {
			wantNoRead(t, brief(text), text, place, api.ErrForm)
			return
		}
		l, _, _ := lines.Read(text)
		wantBoth(t, brief(text), l, text)
	})
}
