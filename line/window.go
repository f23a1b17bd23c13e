package line

import "conclave/api"

// window: which of the numbers below its top were met, the lowest one that is remembered first.
type window struct {
	top  int
	seen [api.Window]bool
}

// windowOf a channel.
func windowOf(c api.Channel) window { return window{c.Top, c.Seen} }

// lowest number that is remembered; it is below 0 while the top is near 0.
func (w window) lowest() int { return w.top - api.Window }

// mayBe: no number below 0 was met, and what the top stands behind was.
func (w window) mayBe() bool {
	for i, met := range w.seen {
		if met && w.lowest()+i < 0 {
			return false
		}
	}
	return w.top == 0 || w.seen[api.Window-1]
}

// isOld: was the number met, or can nobody tell any more?
func (w window) isOld(number int) bool {
	if number >= w.top {
		return false
	}
	return number < w.lowest() || w.seen[number-w.lowest()]
}

// with a number that is met now, and is not old.
func (w window) with(number int) window {
	if number >= w.top {
		w = w.raised(number + 1)
	}
	w.seen[number-w.lowest()] = true
	return w
}

// raised to a higher top: what falls below the lowest number is forgotten.
func (w window) raised(top int) window {
	higher := window{top: top}
	copy(higher.seen[:], w.seen[min(top-w.top, api.Window):])
	return higher
}
