package curve

import (
	"math/bits"

	"truce/api"
	"truce/num"
)

const (
	partBits = 64

	// gap is 2^256 less the prime: what 2^256 is by the prime.
	gap = 1<<32 + 977
)

// below tells whether a number is below the prime.
func below(a api.U) bool { return num.Cmp(a, Prime()) < 0 }

// plus is a sum by the prime, of numbers below it. Sums of points are made of little else than this, less and product, so their parts are written out.
func plus(a, b api.U) api.U {
	s0, carry := bits.Add64(a[0], b[0], 0)
	s1, carry := bits.Add64(a[1], b[1], carry)
	s2, carry := bits.Add64(a[2], b[2], carry)
	s3, carry := bits.Add64(a[3], b[3], carry)
	return settled(s0, s1, s2, s3, carry)
}

// settled is a number below twice the prime, of four parts and what went over, by the prime.
func settled(s0, s1, s2, s3, over uint64) api.U {
	// To take the prime off is to lay the gap on, and to take 2^256 off.
	t0, carry := bits.Add64(s0, gap, 0)
	t1, carry := bits.Add64(s1, 0, carry)
	t2, carry := bits.Add64(s2, 0, carry)
	t3, carry := bits.Add64(s3, 0, carry)
	if carry|over == 0 {
		return api.U{s0, s1, s2, s3}
	}
	return api.U{t0, t1, t2, t3}
}

// less is a difference by the prime, of numbers below it.
func less(a, b api.U) api.U {
	s0, under := bits.Sub64(a[0], b[0], 0)
	s1, under := bits.Sub64(a[1], b[1], under)
	s2, under := bits.Sub64(a[2], b[2], under)
	s3, under := bits.Sub64(a[3], b[3], under)
	// To lay the prime on, where it went under, is to take the gap off.
	s0, under = bits.Sub64(s0, under*gap, 0)
	s1, under = bits.Sub64(s1, 0, under)
	s2, under = bits.Sub64(s2, 0, under)
	s3, _ = bits.Sub64(s3, 0, under)
	return api.U{s0, s1, s2, s3}
}

// product is a product by the prime.
func product(a, b api.U) api.U {
	var low api.U
	var h0, h1, h2, h3 uint64
	for i, x := range a {
		var carry uint64
		carry, low[i] = step(x, b[0], h0, 0)
		carry, h0 = step(x, b[1], h1, carry)
		carry, h1 = step(x, b[2], h2, carry)
		h3, h2 = step(x, b[3], h3, carry)
	}
	return folded(api.U{h0, h1, h2, h3}, low)
}

// step is a times b, and c and d besides, which two parts always hold.
func step(a, b, c, d uint64) (high, low uint64) {
	high, low = bits.Mul64(a, b)
	low, over := bits.Add64(low, c, 0)
	high += over
	low, over = bits.Add64(low, d, 0)
	return high + over, low
}

// folded is a wide number by the prime.
func folded(high, low api.U) api.U {
	carry, s0 := step(high[0], gap, low[0], 0)
	carry, s1 := step(high[1], gap, low[1], carry)
	carry, s2 := step(high[2], gap, low[2], carry)
	carry, s3 := step(high[3], gap, low[3], carry)
	// At most the gap went over, so once more leaves little over, and settled takes that.
	carry, s0 = step(carry, gap, s0, 0)
	s1, carry = bits.Add64(s1, carry, 0)
	s2, carry = bits.Add64(s2, 0, carry)
	s3, carry = bits.Add64(s3, 0, carry)
	return settled(s0, s1, s2, s3, carry)
}

// power is a number to the power of e, by the prime.
func power(a, e api.U) api.U {
	out := num.Of(1)
	for i := range num.Bits(e) {
		if bit(e, i) {
			out = product(out, a)
		}
		a = product(a, a)
	}
	return out
}

// inverse is what a number other than 0 times it is 1 by the prime: a to the prime less 1 is 1.
func inverse(a api.U) api.U {
	e, _ := num.Sub(Prime(), num.Of(2))
	return power(a, e)
}

// root is a number whose square is a; false: there is none.
func root(a api.U) (api.U, bool) {
	// The prime and 1 have 4 as a factor. If a is a square, a to half of the prime less 1 is 1, and so this power's square is a.
	e, _ := num.Add(Prime(), num.Of(1))
	y := power(a, num.Shr(e, 2))
	if product(y, y) != a {
		return api.U{}, false
	}
	return y, true
}

// bit tells whether a number has a bit.
func bit(a api.U, i int) bool { return a[i/partBits]>>(i%partBits)&1 == 1 }
