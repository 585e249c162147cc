package pay

import (
	"math/big"
	"slices"
	"strings"

	"truce/api"
)

const top = 1<<64 - 1

// most is 2^256 - 1.
func most() api.U { return api.U{top, top, top, top} }

// mix is a fixed row of numbers that look mixed: the tests must go alike each time.
func mix(seed *uint64) uint64 {
	*seed += 0x9e3779b97f4a7c15
	z := *seed
	z = (z ^ z>>30) * 0xbf58476d1ce4e5b9
	z = (z ^ z>>27) * 0x94d049bb133111eb
	return z ^ z>>31
}

func below(seed *uint64, n int) int { return int(mix(seed) % uint64(n)) }

func rep(b byte, n int) string { return strings.Repeat(string([]byte{b}), n) }

// plain and bound are allocations in which every field of their kind is set, so that a lost one is seen.
func plain(n uint64) api.Alloc { return api.Alloc{Dest: rep(byte(n), 32), Amount: api.U{n}} }

func bound(n uint64) api.Alloc {
	return api.Alloc{Dest: rep(byte(n), 32), Amount: api.U{n}, Kind: api.PayBound, Left: rep(1, 32), Right: rep(2, 32)}
}

// plains are plain allocations of these amounts.
func plains(amounts ...uint64) []api.Alloc {
	var out []api.Alloc
	for _, n := range amounts {
		out = append(out, plain(n))
	}
	return out
}

// numbers are small numbers as those of 256 bits.
func numbers(l ...uint64) []api.U {
	var out []api.U
	for _, n := range l {
		out = append(out, api.U{n})
	}
	return out
}

// lessBy are allocations whose amounts are less by small numbers, all else as it was.
func lessBy(l []api.Alloc, by ...uint64) []api.Alloc {
	out := slices.Clone(l)
	for i, n := range by {
		out[i].Amount = small(new(big.Int).Sub(large(out[i].Amount), new(big.Int).SetUint64(n)))
	}
	return out
}

// large is a number as one of any size.
func large(u api.U) *big.Int {
	out := new(big.Int)
	for _, part := range slices.Backward(u[:]) {
		out.Lsh(out, 64)
		out.Or(out, new(big.Int).SetUint64(part))
	}
	return out
}

// small is a number that is from 0 to 2^256 - 1, in 256 bits.
func small(n *big.Int) api.U {
	if n.Sign() < 0 || n.BitLen() > 256 {
		panic("no number of 256 bits: " + n.String())
	}
	var out api.U
	rest := new(big.Int).Set(n)
	for i := range out {
		out[i] = new(big.Int).And(rest, new(big.Int).SetUint64(top)).Uint64()
		rest.Rsh(rest, 64)
	}
	return out
}

// sumOf is the sum of numbers, of any size.
func sumOf(l []api.U) *big.Int {
	out := new(big.Int)
	for _, n := range l {
		out.Add(out, large(n))
	}
	return out
}

// amountsOf are the amounts of allocations.
func amountsOf(l []api.Alloc) []api.U {
	var out []api.U
	for _, a := range l {
		out = append(out, a.Amount)
	}
	return out
}

// plainAfford tells each cover by itself: the money less all amounts ahead, not below 0, not above the amount.
func plainAfford(held api.U, l []api.Alloc) []api.U {
	var out []api.U
	for i, a := range l {
		n := new(big.Int).Sub(large(held), sumOf(amountsOf(l[:i])))
		if n.Sign() < 0 {
			n.SetInt64(0)
		}
		if n.Cmp(large(a.Amount)) > 0 {
			n = large(a.Amount)
		}
		out = append(out, small(n))
	}
	return out
}

// plainTransfer is P17.2, a sentence after another.
func plainTransfer(held api.U, l []api.Alloc, which []int) ([]api.Alloc, []api.U, api.U, api.Errno) {
	for i, at := range which {
		if at < 0 || at >= len(l) || i > 0 && which[i-1] >= at {
			return l, nil, held, api.ErrRange
		}
	}
	for _, at := range which {
		if l[at].Kind != 0 {
			return l, nil, held, api.ErrForm
		}
	}
	if len(which) == 0 {
		for at, a := range l {
			if a.Kind == 0 {
				which = append(which, at)
			}
		}
	}
	rest, paid := slices.Clone(l), make([]api.U, len(l))
	for _, at := range which {
		paid[at] = plainAfford(held, l)[at]
		rest[at].Amount = small(new(big.Int).Sub(large(l[at].Amount), large(paid[at])))
	}
	return rest, paid, small(new(big.Int).Sub(large(held), sumOf(paid))), api.OK
}
