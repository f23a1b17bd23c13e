package lines

import (
	"iter"
	"strings"

	"conclave/api"
)

// mostPieces that a line has between its blanks: the word, all numbers, and Data.
const mostPieces = 1 + numberCount + 1

// linesOf a text, with their places; each with its line feed, which the last one may lack.
func linesOf(text string) iter.Seq2[int, string] {
	return func(yield func(int, string) bool) {
		rest := text
		for place := 0; rest != ""; place++ {
			end := strings.IndexByte(rest, '\n') + 1
			if end == 0 {
				end = len(rest)
			}
			if !yield(place, rest[:end]) {
				return
			}
			rest = rest[end:]
		}
	}
}

// actOf a line, and whether it is an act's.
func actOf(line string) (api.Act, bool) {
	body, ended := strings.CutSuffix(line, "\n")
	if !ended {
		return api.Act{}, false
	}
	// one piece more than may be is enough to see that there are too many
	pieces := strings.SplitN(body, " ", mostPieces+1)
	kind := kindOf(pieces[0])
	if !isKind(kind) || len(pieces) != piecesOf(kind) {
		return api.Act{}, false
	}
	return actOfPieces(kind, pieces[1:])
}

// piecesOf a kind: how many its line has between its blanks.
func piecesOf(kind int) int {
	count := 1
	for _, has := range words[kind].has {
		if has {
			count++
		}
	}
	if hasData(kind) {
		count++
	}
	return count
}

// actOfPieces behind the word of a kind, as many as it has, and whether they are an act's.
func actOfPieces(kind int, pieces []string) (api.Act, bool) {
	a := api.Act{Kind: kind}
	next := 0
	for i, number := range numbersOf(&a) {
		if !words[kind].has[i] {
			continue
		}
		n, is := numberOf(pieces[next], bounds[i])
		if !is {
			return api.Act{}, false
		}
		*number = n
		next++
	}
	if hasData(kind) {
		data, is := bytesOf(pieces[next])
		if !is {
			return api.Act{}, false
		}
		a.Data = data
	}
	return a, true
}

// numberOf a text, and whether it is that of a number up to a bound, without noughts ahead. It ends above the bound, so that no number of digits leaves 64 bits.
func numberOf(text string, bound int) (int, bool) {
	if text == "" || text[0] == '0' && len(text) > 1 {
		return 0, false
	}
	number := 0
	for i := range len(text) {
		digit := strings.IndexByte(digits[:10], text[i])
		if digit < 0 {
			return 0, false
		}
		number = 10*number + digit
		if number > bound {
			return 0, false
		}
	}
	return number, true
}

// bytesOf a text, and whether it is that of bytes, two digits each, and not of too many.
func bytesOf(text string) ([]byte, bool) {
	if len(text)%2 != 0 || len(text) > 2*api.MaxData {
		return nil, false
	}
	b := make([]byte, len(text)/2)
	for i := range b {
		high := strings.IndexByte(digits, text[2*i])
		low := strings.IndexByte(digits, text[2*i+1])
		if high < 0 || low < 0 {
			return nil, false
		}
		b[i] = byte(high<<4 | low)
	}
	return b, true
}
