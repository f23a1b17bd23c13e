package lines

import (
	"strconv"
	"strings"

	"conclave/api"
)

const digits = "0123456789abcdef"

// page: the lines that were put together so far.
type page struct{ text strings.Builder }

// handOn acts one by one, up to the first one that may not be: its place, and what is wrong with it.
func handOn(l []api.Act, take func(api.Act)) (int, api.Errno) {
	for place, a := range l {
		if e := Check(a); e != api.OK {
			return place, e
		}
		take(a)
	}
	return 0, api.OK
}

// add the line of an act that may be.
func (p *page) add(a api.Act) {
	p.text.WriteString(words[a.Kind].text)
	for i, number := range numbersOf(&a) {
		if words[a.Kind].has[i] {
			p.text.WriteByte(' ')
			p.text.WriteString(strconv.Itoa(*number))
		}
	}
	if hasData(a.Kind) {
		p.text.WriteByte(' ')
		p.addBytes(a.Data)
	}
	p.text.WriteByte('\n')
}

// addBytes, two digits each.
func (p *page) addBytes(b []byte) {
	for _, x := range b {
		p.text.WriteByte(digits[x>>4])
		p.text.WriteByte(digits[x&15])
	}
}
