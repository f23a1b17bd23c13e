package curve

// place on the curve: x divided by z is its number, so that there is one division at the end only.
type place struct{ x, z number }

// curveFactor: the 121665 that belongs to this curve; it does not fit into a limb.
var curveFactor = number{121665 & limbMask, 121665 >> limbBits}

// number of a place: nought where z is nought.
func (p place) number() number { return p.x.times(p.z.inverse()) }

// climbed: the place that is k times the one with the number u.
func climbed(k, u number) place {
	low, high := place{x: number{1}}, place{u, number{1}}
	for i := topBit; i >= 0; i-- {
		one := k.bit(i) == 1
		if one {
			low, high = high, low
		}
		low, high = step(low, high, u)
		if one {
			low, high = high, low
		}
	}
	return low
}

// step: twice the one place, and the sum of both, which are apart by the one with the number u. Sums and differences are not carried, since times has room for those of two.
func step(low, high place, u number) (twice, sum place) {
	a, b := low.x.plus(low.z), low.x.minus(low.z)
	c, d := high.x.plus(high.z), high.x.minus(high.z)
	aa, bb := a.times(a), b.times(b)
	da, cb := d.times(a), c.times(b)
	e := aa.minus(bb)
	more, less := da.plus(cb), da.minus(cb)
	twice = place{aa.times(bb), e.times(aa.plus(e.times(curveFactor)))}
	sum = place{more.times(more), u.times(less.times(less))}
	return twice, sum
}
