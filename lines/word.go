package lines

import "conclave/api"

// The numbers of acts, in the order in which they stand in lines.
const (
	nodeNumber = iota
	atNumber
	keepNumber
	numberCount
)

// bounds of the numbers.
var bounds = [numberCount]int{
	nodeNumber: api.MaxNodes - 1,
	atNumber:   api.MaxAt,
	keepNumber: api.MaxBytes,
}

// word of a kind of acts, and which numbers it has.
type word struct {
	text string
	has  [numberCount]bool
}

// words, by kinds. The one at 0 is no kind's.
var words = [...]word{
	api.Submit: {text: "submit", has: [numberCount]bool{nodeNumber: true}},
	api.Lead:   {text: "lead", has: [numberCount]bool{nodeNumber: true}},
	api.Step:   {text: "step", has: [numberCount]bool{nodeNumber: true}},
	api.Carry:  {text: "carry", has: [numberCount]bool{atNumber: true}},
	api.Lose:   {text: "lose", has: [numberCount]bool{atNumber: true}},
	api.Double: {text: "double", has: [numberCount]bool{atNumber: true}},
	api.All:    {text: "all"},
	api.Crash:  {text: "crash", has: [numberCount]bool{nodeNumber: true, keepNumber: true}},
	api.Start:  {text: "start", has: [numberCount]bool{nodeNumber: true}},
}

// isKind: is there such a kind of acts?
func isKind(kind int) bool { return kind >= api.Submit && kind < len(words) }

// kindOf a word; of one that is none's it is no kind.
func kindOf(text string) int {
	for kind := api.Submit; isKind(kind); kind++ {
		if words[kind].text == text {
			return kind
		}
	}
	return 0
}

// hasData: are there Data behind the numbers of a kind?
func hasData(kind int) bool { return kind == api.Submit }

// numbersOf an act: pointed at, so that they are checked, shown and read by the same list.
func numbersOf(a *api.Act) [numberCount]*int {
	return [numberCount]*int{nodeNumber: &a.Node, atNumber: &a.At, keepNumber: &a.Keep}
}

// inBounds: are the numbers that the word of an act has, of a kind that is there, within their bounds? One that the word does not have is none of the act's, so that fitsWord alone asks for it.
func inBounds(a api.Act) bool {
	for i, number := range numbersOf(&a) {
		if words[a.Kind].has[i] && (*number < 0 || *number > bounds[i]) {
			return false
		}
	}
	return true
}

// fitsWord: has an act, of a kind that is there, nothing but what its word has?
func fitsWord(a api.Act) bool {
	for i, number := range numbersOf(&a) {
		if *number != 0 && !words[a.Kind].has[i] {
			return false
		}
	}
	return len(a.Data) == 0 || hasData(a.Kind)
}
