package moot

import (
	"encoding/hex"
	"fmt"
	"slices"
	"strings"
	"testing"

	"conclave/api"
	"conclave/lines"
)

// die: numbers that look drawn, the same each time.
type die uint64

// upTo: a number from 0 to the most.
func (d *die) upTo(most int) int {
	*d = *d*6364136223846793005 + 1442695040888963407
	return int(uint64(*d>>33) % uint64(most+1))
}

// bytes that look drawn.
func (d *die) bytes(n int) []byte {
	b := make([]byte, n)
	for i := range b {
		b[i] = byte(d.upTo(255))
	}
	return b
}

// put, get and revoke: commands.
func put(client, seq, name, value int) api.Command {
	return api.Command{Kind: api.Put, Client: client, Seq: seq, Name: name, Value: value}
}

func get(client, seq, name int) api.Command {
	return api.Command{Kind: api.Get, Client: client, Seq: seq, Name: name}
}

func revoke(client, seq, name int) api.Command {
	return api.Command{Kind: api.Revoke, Client: client, Seq: seq, Name: name}
}

// may: a token that allows a client all, at each time.
func may(client int) api.Token {
	return api.Token{Client: client, Rights: api.MayRead | api.MayWrite | api.MayAdmin, Until: api.MaxSlot}
}

// packed: the bytes of a command with a token that allows it.
func packed(t *testing.T, c api.Command) []byte {
	t.Helper()
	return packedUntil(t, c, api.MaxSlot)
}

// packedUntil: the same with a token that is over behind a time.
func packedUntil(t *testing.T, c api.Command, until int) []byte {
	t.Helper()
	token := may(c.Client)
	token.Until = until
	b, e := Pack(c.Seq, token, c)
	if e != api.OK {
		t.Fatalf("Pack of %v: %d", c, int(e))
	}
	return b
}

// acts that are told as lines, with semicolons between them.
func acts(t *testing.T, text string) []api.Act {
	t.Helper()
	var b strings.Builder
	for _, s := range strings.Split(text, ";") {
		if s = strings.TrimLeft(s, " "); s != "" { // a blank behind a submit is one of no Data
			b.WriteString(s + "\n")
		}
	}
	l, place, e := lines.Read(b.String())
	if e != api.OK {
		t.Fatalf("the act at %d of %q: %d", place, text, int(e))
	}
	return l
}

// submits: a command comes to nodes.
func submits(t *testing.T, c api.Command, nodes ...int) []api.Act {
	t.Helper()
	var l []api.Act
	for _, n := range nodes {
		l = append(l, api.Act{Kind: api.Submit, Node: n, Data: packed(t, c)})
	}
	return l
}

// fair rounds, so many.
func fair(rounds int) []api.Act {
	var l []api.Act
	for range rounds {
		for n := range api.MaxNodes {
			l = append(l, api.Act{Kind: api.Step, Node: n})
		}
		l = append(l, api.Act{Kind: api.All})
	}
	return l
}

// join parts of a script.
func join(parts ...[]api.Act) []api.Act { return slices.Concat(parts...) }

// ran: the outcome of a script that is not refused.
func ran(t *testing.T, parts ...[]api.Act) api.Outcome {
	t.Helper()
	o, e := Run(join(parts...))
	if e != api.OK || len(o.Logs) != api.MaxNodes {
		t.Fatalf("refused: %d, %v", int(e), o)
	}
	return o
}

// same: are two outcomes the same? Lists without elements may be nil or not.
func same(a, b api.Outcome) bool {
	return a.Flying == b.Flying && a.Up == b.Up && a.Bad == b.Bad && slices.Equal(a.Told, b.Told) &&
		slices.EqualFunc(a.Logs, b.Logs, func(x, y []api.Command) bool { return slices.Equal(x, y) })
}

// brief: a script as lines, its end alone if it is long.
func brief(l []api.Act) string {
	text, _, _ := lines.Show(l)
	if len(text) > 20000 {
		return fmt.Sprint("of ", len(l), " acts, in the end: ", text[len(text)-20000:])
	}
	return text
}

// wantLogs: what each node has done.
func wantLogs(t *testing.T, what string, o api.Outcome, want ...[]api.Command) {
	t.Helper()
	for n, log := range o.Logs {
		if !slices.Equal(log, want[n]) {
			t.Errorf("%s: the node %d has done %v, want %v", what, n, log, want[n])
		}
	}
}

// wantAll: what all nodes have done.
func wantAll(t *testing.T, what string, o api.Outcome, want ...api.Command) {
	t.Helper()
	wantLogs(t, what, o, want, want, want, want, want)
}

// wantTold: what was told.
func wantTold(t *testing.T, what string, o api.Outcome, want ...api.Told) {
	t.Helper()
	if !slices.Equal(o.Told, want) {
		t.Errorf("%s: told %v, want %v", what, o.Told, want)
	}
}

// unhex: the bytes of a text.
func unhex(t *testing.T, text string) []byte {
	t.Helper()
	b, err := hex.DecodeString(text)
	if err != nil {
		t.Fatal(err)
	}
	return b
}
