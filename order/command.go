package order

import "conclave/api"

const (
	numberCount = 5
	numberSize  = 4
	commandSize = numberCount * numberSize
)

// need: what a command of a kind needs to be in form, and to be allowed.
type need struct {
	right int // of the token
	name  int // the greatest Name
	value int // the greatest Value
}

// needs, by kinds. A Noop needs a right that no token has, since no client may ask for one.
var needs = [...]need{
	api.Noop:   {},
	api.Put:    {right: api.MayWrite, name: api.Names - 1, value: api.MaxValue},
	api.Get:    {right: api.MayRead, name: api.Names - 1},
	api.Revoke: {right: api.MayAdmin, name: api.MaxClient},
}

// isKind: is there such a kind of commands?
func isKind(kind int) bool { return upTo(kind, len(needs)-1) }

// checkNoop: nothing but its kind is told of it.
func checkNoop(c api.Command) api.Errno {
	if c != (api.Command{Kind: api.Noop}) {
		return api.ErrForm
	}
	return api.OK
}

// inBounds: are the numbers of a command, of a kind that is there, within what holds of any such? A Value may be in bounds where its kind has none.
func inBounds(c api.Command) bool {
	return upTo(c.Client, api.MaxClient) && upTo(c.Seq, api.MaxSeq) && upTo(c.Name, needs[c.Kind].name) && upTo(c.Value, api.MaxValue)
}

// numbersOf a command, in the order of its bytes: pointed at, so that they are read and written by the same list.
func numbersOf(c *api.Command) [numberCount]*int {
	return [numberCount]*int{&c.Kind, &c.Client, &c.Seq, &c.Name, &c.Value}
}

// putNumber behind bytes, the highest byte first.
func putNumber(b []byte, number int) []byte {
	for place := numberSize - 1; place >= 0; place-- {
		b = append(b, byte(number>>(8*place)))
	}
	return b
}

// numberAt a place of bytes.
func numberAt(b []byte, at int) int {
	number := 0
	for _, x := range b[at : at+numberSize] {
		number = number<<8 | int(x)
	}
	return number
}

// upTo: is a number from 0 to the greatest one that may be?
func upTo(number, greatest int) bool { return number >= 0 && number <= greatest }
