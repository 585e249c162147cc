package seal

import (
	"iter"

	"truce/api"
	"truce/curve"
	"truce/hash"
	"truce/num"
)

// maxTries is how many tries there are: a byte counts them.
const maxTries = 256

// tries hands out, try by try, a number that only who has the key can tell, and the base so many times.
func tries(digest string, d api.U) iter.Seq2[api.U, api.Point] {
	return func(yield func(api.U, api.Point) bool) {
		for i := range maxTries {
			k := secret(digest, d, byte(i))
			if !yield(k, curve.Mul(k, curve.Base())) {
				return
			}
		}
	}
}

// secret is a try's number. It hangs on the digest, since one number for two digests would give the key away.
func secret(digest string, d api.U, i byte) api.U {
	k, _ := num.Read(hash.Sum(num.Bytes(d) + digest + string([]byte{i})))
	return byOrder(k)
}

// first is the seal of the first try that makes one.
func first(e, d api.U, row iter.Seq2[api.U, api.Point]) (api.Seal, api.Errno) {
	out, err := api.Seal{}, api.ErrSeal
search:
	for k, p := range row {
		s := share(e, d, k, p.X)
		switch {
		case k == api.U{}:
		case !inside(p.X):
		case s == api.U{}:
		default:
			out, err = lowered(api.Seal{R: p.X, S: s, Odd: isOdd(p.Y)}), api.OK
			break search
		}
	}
	return out, err
}

// share is the inverse of k times (e and r times d), by the order; 0, if k is 0.
func share(e, d, k, r api.U) api.U {
	return times(inverse(k), plus(e, times(r, d)))
}

// lowered is a seal with the lower one of S and the order less it; the latter goes with the point on the other side.
func lowered(s api.Seal) api.Seal {
	if num.Cmp(s.S, half()) <= 0 {
		return s
	}
	return api.Seal{R: s.R, S: negative(s.S), Odd: !s.Odd}
}

// isOdd tells whether a number is odd.
func isOdd(a api.U) bool { return a[0]&1 == 1 }
