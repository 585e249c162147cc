package claim

import (
	"math/big"
	"slices"
	"strings"

	"truce/api"
)

const top = 1<<64 - 1

// most is 2^256 - 1.
func most() api.U { return api.U{top, top, top, top} }

// mix is a fixed row of numbers that look mixed: the tests must go alike each time.
func mix(seed *uint64) uint64 {
	*seed += 0x9e3779b97f4a7c15
	z := *seed
	z = (z ^ z>>30) * 0xbf58476d1ce4e5b9
	z = (z ^ z>>27) * 0x94d049bb133111eb
	return z ^ z>>31
}

func below(seed *uint64, n int) int { return int(mix(seed) % uint64(n)) }

// dest is a destination of one byte, over and over.
func dest(b byte) string { return strings.Repeat(string([]byte{b}), 32) }

func plain(to byte, n uint64) api.Alloc { return api.Alloc{Dest: dest(to), Amount: api.U{n}} }

func bound(to byte, n uint64, left, right byte) api.Alloc {
	return api.Alloc{Dest: dest(to), Amount: api.U{n}, Kind: api.PayBound, Left: dest(left), Right: dest(right)}
}

// shares are an inner channel's plain allocations; whom they go to is of no account.
func shares(amounts ...uint64) []api.Alloc {
	var out []api.Alloc
	for _, n := range amounts {
		out = append(out, plain(byte(90+len(out)), n))
	}
	return out
}

// large is a number as one of any size.
func large(u api.U) *big.Int {
	out := new(big.Int)
	for _, part := range slices.Backward(u[:]) {
		out.Lsh(out, 64)
		out.Or(out, new(big.Int).SetUint64(part))
	}
	return out
}

// small is a number of any size in 256 bits; false: it is below 0, or not below 2^256.
func small(n *big.Int) (api.U, bool) {
	if n.Sign() < 0 || n.BitLen() > 256 {
		return api.U{}, false
	}
	var out api.U
	rest := new(big.Int).Set(n)
	for i := range out {
		out[i] = new(big.Int).And(rest, new(big.Int).SetUint64(top)).Uint64()
		rest.Rsh(rest, 64)
	}
	return out, true
}

func sum(a, b api.U) *big.Int { return new(big.Int).Add(large(a), large(b)) }

func minus(a, b api.U) *big.Int { return new(big.Int).Sub(large(a), large(b)) }

// all is the sum of all amounts, of any size.
func all(l []api.Alloc) *big.Int {
	out := new(big.Int)
	for _, a := range l {
		out.Add(out, large(a.Amount))
	}
	return out
}

// firstPlain is the place of the first plain allocation that goes to so and so; the length, if there is none.
func firstPlain(l []api.Alloc, to string) int {
	for i, a := range l {
		if a.Kind == 0 && a.Dest == to {
			return i
		}
	}
	return len(l)
}

// plainReclaim is P18.1, a sentence after another.
func plainReclaim(l []api.Alloc, k int, inner []api.Alloc) ([]api.Alloc, api.Errno) {
	if k < 0 || k >= len(l) {
		return l, api.ErrRange
	}
	if l[k].Kind != 1 || len(inner) != 2 || inner[0].Kind != 0 || inner[1].Kind != 0 {
		return l, api.ErrForm
	}
	if sum(inner[0].Amount, inner[1].Amount).Cmp(large(l[k].Amount)) != 0 {
		return l, api.ErrFunds
	}
	left, right := firstPlain(l, l[k].Left), firstPlain(l, l[k].Right)
	if left == len(l) || right == len(l) {
		return l, api.ErrNone
	}
	amounts := make([]*big.Int, len(l))
	for i, a := range l {
		amounts[i] = large(a.Amount)
	}
	amounts[left].Add(amounts[left], large(inner[0].Amount))
	amounts[right].Add(amounts[right], large(inner[1].Amount))
	var out []api.Alloc
	for i, a := range l {
		n, ok := small(amounts[i])
		if !ok {
			return l, api.ErrOver
		}
		a.Amount = n
		if i != k {
			out = append(out, a)
		}
	}
	return out, api.OK
}

// plainBind is P18.2, a sentence after another.
func plainBind(l []api.Alloc, channel string, left, right int, a, b api.U) ([]api.Alloc, api.Errno) {
	if left < 0 || left >= len(l) || right < 0 || right >= len(l) || left == right {
		return l, api.ErrRange
	}
	if len(channel) != 32 || l[left].Kind != 0 || l[right].Kind != 0 {
		return l, api.ErrForm
	}
	lessLeft, ok := small(minus(l[left].Amount, a))
	lessRight, also := small(minus(l[right].Amount, b))
	if !ok || !also {
		return l, api.ErrFunds
	}
	both, ok := small(sum(a, b))
	if !ok {
		return l, api.ErrOver
	}
	if len(l) >= 8 {
		return l, api.ErrMany
	}
	out := append(slices.Clone(l), api.Alloc{Dest: channel, Amount: both, Kind: 1, Left: l[left].Dest, Right: l[right].Dest})
	out[left].Amount, out[right].Amount = lessLeft, lessRight
	return out, api.OK
}
