package curve

import (
	"iter"

	"truce/api"
	"truce/num"
)

// threeSevens is what the form of sums takes thrice the curve's 7 for.
const threeSevens = 3 * seven

// triple is a point in three coordinates: X and Y are the first two by the third, and None is where that is 0.
type triple [3]api.U

// spread is a point in three coordinates.
func spread(p api.Point) triple {
	if p.None {
		return nought()
	}
	return triple{p.X, p.Y, num.Of(1)}
}

// nought is None in three coordinates.
func nought() triple { return triple{{}, num.Of(1), {}} }

// point is a point of its three coordinates.
func point(t triple) api.Point {
	if t[2] == (api.U{}) {
		return none()
	}
	by := inverse(t[2])
	return api.Point{X: product(t[0], by), Y: product(t[1], by)}
}

// joined is the sum of two points, by a form that needs no case of its own for None, doubles or negatives: there is no point with Y 0, and so it never answers three noughts.
func joined(a, b triple) triple {
	xx, yy, zz := product(a[0], b[0]), product(a[1], b[1]), product(a[2], b[2])
	xy := crossed(a[0], a[1], b[0], b[1], plus(xx, yy))
	yz := crossed(a[1], a[2], b[1], b[2], plus(yy, zz))
	xz := crossed(a[0], a[2], b[0], b[2], plus(xx, zz))
	xx = plus(xx, plus(xx, xx))
	zz = product(num.Of(threeSevens), zz)
	xz = product(num.Of(threeSevens), xz)
	more, fewer := plus(yy, zz), less(yy, zz)
	return triple{
		less(product(xy, fewer), product(yz, xz)),
		plus(product(more, fewer), product(xx, xz)),
		plus(product(yz, more), product(xx, xy)),
	}
}

// crossed is a times d and b times c, by one product, since a times c and b times d are known as straight.
func crossed(a, b, c, d, straight api.U) api.U {
	return less(product(plus(a, b), plus(c, d)), straight)
}

// times is a point, k times added.
func times(k api.U, t triple) triple {
	out := nought()
	for i, double := range doubles(t, num.Bits(k)) {
		if bit(k, i) {
			out = joined(out, double)
		}
	}
	return out
}

// doubles hands out a point, its double, that one's double, and so on.
func doubles(t triple, count int) iter.Seq2[int, triple] {
	return func(yield func(int, triple) bool) {
		double := t
		for i := range count {
			if !yield(i, double) {
				return
			}
			double = joined(double, double)
		}
	}
}
