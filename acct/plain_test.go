package acct

import (
	"math/big"
	"slices"
	"strings"
	"testing"

	"truce/api"
)

const top = 1<<64 - 1

// most is 2^256 - 1.
func most() api.U { return api.U{top, top, top, top} }

// mix is a fixed row of numbers that look mixed: the tests must go alike each time.
func mix(seed *uint64) uint64 {
	*seed += 0x9e3779b97f4a7c15
	z := *seed
	z = (z ^ z>>30) * 0xbf58476d1ce4e5b9
	z = (z ^ z>>27) * 0x94d049bb133111eb
	return z ^ z>>31
}

func below(seed *uint64, n int) int { return int(mix(seed) % uint64(n)) }

func rep(b byte, n int) string { return strings.Repeat(string([]byte{b}), n) }

// name is the i-th address or asset, rising by i.
func name(i int) string { return rep(0, 18) + string([]byte{byte(i >> 8), byte(i)}) }

func coin(who, asset int, n uint64) api.Coin {
	return api.Coin{Who: name(who), Asset: name(asset), Amount: api.U{n}}
}

// many are n accounts of one asset, with 1 each, of the addresses with even numbers.
func many(n int) []api.Coin {
	var out []api.Coin
	for i := range n {
		out = append(out, coin(2*i, 1, 1))
	}
	return out
}

// large is a number as one of any size.
func large(u api.U) *big.Int {
	out := new(big.Int)
	for _, part := range slices.Backward(u[:]) {
		out.Lsh(out, 64)
		out.Or(out, new(big.Int).SetUint64(part))
	}
	return out
}

// small is a number of any size in 256 bits; false: it is not below 2^256, or below 0.
func small(n *big.Int) (api.U, bool) {
	if n.Sign() < 0 || n.BitLen() > 256 {
		return api.U{}, false
	}
	var out api.U
	rest := new(big.Int).Set(n)
	for i := range out {
		out[i] = new(big.Int).And(rest, new(big.Int).SetUint64(top)).Uint64()
		rest.Rsh(rest, 64)
	}
	return out, true
}

// pots are accounts in the chapter's words: how much of each asset each address has, in no order, of any size.
type pots map[[2]string]*big.Int

func potsOf(l []api.Coin) pots {
	out := pots{}
	for _, c := range l {
		out[[2]string{c.Who, c.Asset}] = large(c.Amount)
	}
	return out
}

func (p pots) get(who, asset string) *big.Int {
	if n := p[[2]string{who, asset}]; n != nil {
		return n
	}
	return new(big.Int)
}

func (p pots) sum(asset string) *big.Int {
	out := new(big.Int)
	for at, n := range p {
		if at[1] == asset {
			out.Add(out, n)
		}
	}
	return out
}

// list has the accounts that are not 0, sorted by what they bear.
func (p pots) list() []api.Coin {
	var out []api.Coin
	for at, n := range p {
		if n.Sign() == 0 {
			continue
		}
		u, _ := small(n)
		out = append(out, api.Coin{Who: at[0], Asset: at[1], Amount: u})
	}
	slices.SortFunc(out, func(a, b api.Coin) int { return strings.Compare(a.Who+a.Asset, b.Who+b.Asset) })
	return out
}

// plainGive and plainTake are the chapter's sentences one after another.
func plainGive(l []api.Coin, who, asset string, n api.U) ([]api.Coin, api.Errno) {
	if len(who) != 20 || len(asset) != 20 {
		return l, api.ErrForm
	}
	p := potsOf(l)
	if _, ok := small(new(big.Int).Add(p.sum(asset), large(n))); !ok {
		return l, api.ErrOver
	}
	p[[2]string{who, asset}] = new(big.Int).Add(p.get(who, asset), large(n))
	if out := p.list(); len(out) <= 1000 {
		return out, api.OK
	}
	return l, api.ErrMany
}

func plainTake(l []api.Coin, who, asset string, n api.U) ([]api.Coin, api.Errno) {
	if len(who) != 20 || len(asset) != 20 {
		return l, api.ErrForm
	}
	p := potsOf(l)
	less := new(big.Int).Sub(p.get(who, asset), large(n))
	if less.Sign() < 0 {
		return l, api.ErrFunds
	}
	p[[2]string{who, asset}] = less
	return p.list(), api.OK
}

// plainFit is the chapter's sentence on accounts.
func plainFit(l []api.Coin) bool {
	if len(l) > 1000 {
		return false
	}
	for i, c := range l {
		if len(c.Who) != 20 || len(c.Asset) != 20 || c.Amount == (api.U{}) {
			return false
		}
		// Both have 20 bytes, so that one behind the other are compared as both one after another.
		if i > 0 && l[i-1].Who+l[i-1].Asset >= c.Who+c.Asset {
			return false
		}
	}
	for _, c := range l {
		if _, ok := small(potsOf(l).sum(c.Asset)); !ok {
			return false
		}
	}
	return true
}

// wantFit fails the test unless these are fit.
func wantFit(t *testing.T, l []api.Coin) {
	t.Helper()
	if !Fit(l) {
		t.Errorf("not fit: %v", l)
	}
}
