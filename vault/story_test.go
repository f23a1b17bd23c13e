package vault_test

import (
	"testing"

	"conclave/api"
	"conclave/vault"
)

// told: a story of several clients, with the answers told by hand, and the sums worked out apart from the program.
var told = []struct {
	what   api.Command
	answer api.Answer
	sum    string
}{
	{put(1, 0, 2, 77), value(77), "65c030a1974246233cc9d8a3c329f8c0eae94a01bbdf81f5fcc11ee9ebb0c503"},
	{get(3, 0, 2), value(77), "58555e29de27023397c4a6c2e1f002440a615bff9756c1573d856f415793b2df"},
	{put(1, 0, 2, 77), value(77), "6b4cf674178966693ff015dd7aa515bb95aebdcaaacb42c77db1d5f81d499a43"},
	{api.Command{}, value(0), "37ecefe9471b8056c8aee8de9838c1a05eb62b16a14a01b2b31963cb7ab5891e"},
	{put(1, 5, 2, 1<<30), value(1 << 30), "e2e3db3f595003d2fea9b6eddfb800c55d7aa50a068a66daed2448f134d67359"},
	{put(1, 3, 2, 9), code(7), "f40a66f15c787f41775c9d983cd6f4329e93a9d52f664f1de95a99797b1efa20"},
	{put(1, 4, 2, 9), code(7), "59068a6d986c7f117764e71e1062ffb83c8dc657fd3e5c39ab5264f9222ae58b"},
	{get(1, 5, 0), value(1 << 30), "18b5b74eb98eb0179b16c440ca60d7b494c2f8f1fa0974de0ba55fab86f8aca3"},
	{revoke(0, 0, 3), value(0), "84a14bf66831fe9a9596800377c6792107c732b8536fe250bb5e98697d3bcdf5"},
	{get(3, 0, 2), value(77), "7242780f650e5f9dfbf676c1ef2194d710e6be688823f15a0acf8423a7aabb10"},
	{get(3, 1, 2), code(11), "0cf261463a9f19dc44d8f22b25223910b0dff0d4fa034b339e726a1aa332281e"},
	{get(2, 1<<20, 7), value(0), "daa361d25359fbadef219f1741f1ba5ad9857d0050560eb265f169fb34c2df2f"},
	{get(2, 1<<20, 2), value(0), "a92feee2b320cdcee9ea2df8b05b0de5eb36834b8f64ed3990621a99839fb176"},
	{get(2, 1<<20-1, 2), code(7), "2b3f649434249b7230a6fe3d786f0e225f9f0776f2df8da212d7b63a6f07d269"},
	{revoke(4, 0, 4), value(0), "35072c6378ee2cc5ead1aeb837b0d4930bed501a669a22cc7df12c943c345b49"},
	{put(4, 1, 0, 5), code(11), "d814d1c847ffcf4483f1b4f76a936c7bccc5333f36fb1e65f1b6242f0403c5c6"},
	{revoke(4, 0, 4), value(0), "e0aad14a7b3437ab1a22f023797eeb9fb3afff66dd543af2c8d3808ad84684ed"},
	{revoke(0, 1, 3), value(0), "e335a134c465f6a8aa65b40e82ba7e06f02d4a4e71d582a5cf6a50c682264b6f"},
	{get(0, 2, 2), value(1 << 30), "6fa2b57a35c1793cf60d4453cf82c4ba96314c4b5bcdde1ff033ecf262d19b05"},
	{put(0, 65536, 7, 0x01020304), value(0x01020304), "822c9947979cd6726d165d04af65abaf704fb36a5b56a619d31ac6c16d0b724f"},
	{get(7, 258, 7), value(0x01020304), "3d5c47b04da25d5858fbd7491a29f51c20cac45539aa8d6ae90ebdf68f4f50e4"},
	{put(7, 259, 2, 0), value(0), "68897129eeb87f233a3bb5679dc29f80e7be2efdebca2be39e2c5b6789c946f6"},
	{get(0, 65537, 2), value(0), "bbeea736b43234b4848c6a37ff08cdac330132f7ed563106cf4e7b203c710147"},
}

// toldEnd: the store behind the story that is told, by hand.
var toldEnd = api.Store{
	Values:  [8]int{7: 0x01020304},
	Last:    [8]int{0: 65538, 1: 6, 2: 1<<20 + 1, 3: 1, 4: 1, 7: 260},
	Answers: [8]api.Answer{1: {Value: 1 << 30}, 3: {Value: 77}},
	Revoked: [8]bool{3: true, 4: true},
}

// toldCommands: the commands of the story.
func toldCommands() []api.Command {
	var l []api.Command
	for _, x := range told {
		l = append(l, x.what)
	}
	return l
}

// toldChain: the chain of the story, in new memory.
func toldChain() []api.Entry {
	var l []api.Entry
	for _, x := range told {
		l = append(l, api.Entry{What: x.what, Answer: x.answer, Sum: unhex(x.sum)})
	}
	return l
}

// history: the commands that were done in truth, with their answers: not the ones that came again, or were old, or not allowed.
type history []api.Entry

// lastOf a client: its last command that was done, and whether there is one.
func (h history) lastOf(client int) (api.Entry, bool) {
	for i := len(h) - 1; i >= 0; i-- {
		if h[i].What.Client == client {
			return h[i], true
		}
	}
	return api.Entry{}, false
}

// valueOf a name: what was put last.
func (h history) valueOf(name int) int {
	for i := len(h) - 1; i >= 0; i-- {
		if c := h[i].What; c.Kind == api.Put && c.Name == name {
			return c.Value
		}
	}
	return 0
}

// revoked: was a client revoked?
func (h history) revoked(client int) bool {
	for _, x := range h {
		if x.What.Kind == api.Revoke && x.What.Name == client {
			return true
		}
	}
	return false
}

// with a command: its answer, worked out of all that was done.
func (h history) with(c api.Command) (history, api.Answer) {
	if c == (api.Command{}) {
		return h, api.Answer{}
	}
	if last, is := h.lastOf(c.Client); is && last.What.Seq == c.Seq {
		return h, last.Answer
	} else if is && last.What.Seq > c.Seq {
		return h, code(api.ErrOld)
	}
	if h.revoked(c.Client) {
		return h, code(api.ErrRight)
	}
	a := api.Answer{}
	switch c.Kind {
	case api.Put:
		a = value(c.Value)
	case api.Get:
		a = value(h.valueOf(c.Name))
	}
	return append(h, api.Entry{What: c, Answer: a}), a
}

// store that the history makes.
func (h history) store() api.Store {
	var s api.Store
	for i := range api.Names {
		s.Values[i] = h.valueOf(i)
	}
	for i := range api.MaxClient + 1 {
		if last, is := h.lastOf(i); is {
			s.Last[i], s.Answers[i] = last.What.Seq+1, last.Answer
		}
		s.Revoked[i] = h.revoked(i)
	}
	return s
}

// drawn: so many commands that look drawn, with Seqs that rise, fall and come again, and few Revokes.
func drawn(d *die, n int) []api.Command {
	var l []api.Command
	for range n {
		client, seq, name := d.upTo(7), len(l)/6+d.upTo(6), d.upTo(7)
		switch kind := d.upTo(19); {
		case kind < 9:
			l = append(l, put(client, seq, name, d.upTo(api.MaxValue)))
		case kind < 17:
			l = append(l, get(client, seq, name))
		case kind == 17:
			l = append(l, revoke(client, seq, name))
		case kind == 18:
			l = append(l, api.Command{})
		case len(l) > 0:
			l = append(l, l[d.upTo(len(l)-1)])
		}
	}
	return l
}

// TestStoryOfExamples: P10.2: done one behind the other; told by hand.
func TestStoryOfExamples(t *testing.T) {
	var s api.Store
	for i, x := range told {
		next, a, e := vault.Do(s, x.what)
		if e != api.OK || a != x.answer {
			t.Errorf("%d: %v: %v, %d, want %v", i, x.what, a, int(e), x.answer)
		}
		s = next
	}
	if s != toldEnd {
		t.Errorf("%v, want %v", s, toldEnd)
	}
}

// TestDrawnStories: P10.2, P10.3, P10.4: each store and each answer is what the commands make that were done in truth; the chain tells the same, and is found right.
func TestDrawnStories(t *testing.T) {
	met := map[api.Errno]int{}
	for seed := range 60 {
		d := die(seed)
		l := drawn(&d, 150)
		var h history
		var s api.Store
		var answers []api.Answer
		for i, c := range l {
			var want api.Answer
			h, want = h.with(c)
			next, a, e := vault.Do(s, c)
			if e != api.OK || a != want || next != h.store() {
				t.Fatalf("seed %d, %d: %v of %v: %v, %v, %d, want %v, %v", seed, i, c, s, next, a, int(e), h.store(), want)
			}
			s, answers = next, append(answers, a)
			met[a.Code]++
		}
		wantChain(t, l, chained(l, answers), s)
		wantAudit(t, "drawn", chained(l, answers), -1)
	}
	if met[api.OK] < 1000 || met[api.ErrOld] < 1000 || met[api.ErrRight] < 1000 {
		t.Errorf("%v: the test says little", met)
	}
}

// TestDoneOnce: what comes of it: a client's command is done once, however often it comes, and is answered the same while it is the client's last.
func TestDoneOnce(t *testing.T) {
	for seed := range 20 {
		d := die(seed)
		var s api.Store
		for _, c := range drawn(&d, 100) {
			once, a, _ := vault.Do(s, c)
			for range 3 {
				wantSame(t, once, c, a)
			}
			s = once
		}
	}
}
