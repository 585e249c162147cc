package chain

import (
	"math/big"
	"reflect"
	"slices"
	"strings"
	"testing"

	"truce/acct"
	"truce/api"
	"truce/call"
	"truce/judge"
	"truce/key"
	"truce/proof"
	"truce/state"
)

const top = 1<<64 - 1

// most is 2^256 - 1.
func most() api.U { return api.U{top, top, top, top} }

// mix is a fixed row of numbers that look mixed: the tests must go alike each time.
func mix(seed *uint64) uint64 {
	*seed += 0x9e3779b97f4a7c15
	z := *seed
	z = (z ^ z>>30) * 0xbf58476d1ce4e5b9
	z = (z ^ z>>27) * 0x94d049bb133111eb
	return z ^ z>>31
}

func below(seed *uint64, n int) int { return int(mix(seed) % uint64(n)) }

func rep(b byte, n int) string { return strings.Repeat(string([]byte{b}), n) }

// ch is a channel of one byte, over and over; of 0 it would be an address's destination.
func ch(b byte) string { return rep(b, 32) }

// asset is one of one byte: that of 0 is the fee's.
func asset(b byte) string { return rep(b, 20) }

// who is an address of one byte: that of 255 is the fee's.
func who(b byte) string { return rep(b, 20) }

func coin(w string, of byte, n uint64) api.Coin {
	return api.Coin{Who: w, Asset: asset(of), Amount: api.U{n}}
}

func hold(channel, of byte, n uint64) api.Hold {
	return api.Hold{Channel: ch(channel), Asset: asset(of), Amount: api.U{n}}
}

func plain(dest string, n uint64) api.Alloc { return api.Alloc{Dest: dest, Amount: api.U{n}} }

func exit(of byte, l ...api.Alloc) api.Exit { return api.Exit{Asset: asset(of), Allocs: l} }

// known is a case of a turn, which ends at 5.
func known(channel byte, turn uint64, exits ...api.Exit) api.Case {
	return api.Case{Channel: ch(channel), Turn: turn, Ends: 5, Digest: rep(channel+100, 32), Exits: exits}
}

// small is an address of a number below 2^16, by which they rise.
func small(n int) string { return rep(9, 18) + string([]byte{byte(n >> 8), byte(n)}) }

func manyCoins(n int, of byte) []api.Coin {
	var out []api.Coin
	for i := range n {
		out = append(out, coin(small(i), of, 1))
	}
	return out
}

func manyCounts(n int) []api.Count {
	var out []api.Count
	for i := range n {
		out = append(out, api.Count{Who: small(i), N: 1})
	}
	return out
}

func manyHolds(n int, of byte) []api.Hold {
	var out []api.Hold
	for i := range n {
		out = append(out, api.Hold{Channel: small(i) + rep(9, 12), Asset: asset(of), Amount: api.U{1}})
	}
	return out
}

func manyCases(n int) []api.Case {
	var out []api.Case
	for _, h := range manyHolds(n, 1) {
		out = append(out, api.Case{Channel: h.Channel, Digest: rep(1, 32)})
	}
	return out
}

// keyOf is the key of one of a few that seal.
func keyOf(i int) api.U { return key.Small(uint64(10 + i)) }

func mine(t testing.TB, i int) string {
	t.Helper()
	out, err := key.Who(keyOf(i))
	if err != api.OK {
		t.Fatalf("no key %d", i)
	}
	return out
}

// wrap is a transaction's bytes, sealed by a key.
func wrap(t testing.TB, i int, x api.Tx) string {
	t.Helper()
	out, err := call.Wrap(x, keyOf(i))
	if err != api.OK {
		t.Fatalf("%v is not fit: error %d", x, err)
	}
	return out
}

// channel is a fit one of two participants, the keys 0 and 1.
func channel(t testing.TB, time int, nonce uint64) api.Fixed {
	t.Helper()
	return api.Fixed{Parts: []string{mine(t, 0), mine(t, 1)}, Time: time, Nonce: nonce}
}

// by is a state with the seals of participants.
func by(t testing.TB, f api.Fixed, v api.Var, parts ...int) api.Signed {
	t.Helper()
	out := api.Signed{Var: v}
	for _, p := range parts {
		s, err := proof.Sign(f, api.Signed{Var: v}, keyOf(p))
		if err != api.OK {
			t.Fatalf("not signed: error %d", err)
		}
		out.Seals = append(out.Seals, s.Seals...)
	}
	return out
}

// byAll is a proof by a state that both participants signed.
func byAll(t testing.TB, f api.Fixed, v api.Var) []api.Signed {
	t.Helper()
	return []api.Signed{by(t, f, v, 0, 1)}
}

// laid is the case of a state that was laid down.
func laid(f api.Fixed, v api.Var, ends int) api.Case {
	return api.Case{Channel: state.Id(f), Turn: v.Turn, Ends: ends, Digest: state.Digest(f, v), Exits: v.Exits}
}

// rich is a chain at a moment on which the keys 0 to 2 have so much of the fee's asset and of another one each.
func rich(t testing.TB, now int, fee, other uint64) api.Chain {
	t.Helper()
	c := api.Chain{Now: now}
	for i := range 3 {
		c = minted(t, c, mine(t, i), 0, fee)
		c = minted(t, c, mine(t, i), 1, other)
	}
	return c
}

func minted(t testing.TB, c api.Chain, w string, of byte, n uint64) api.Chain {
	t.Helper()
	out, err := Mint(c, w, asset(of), api.U{n})
	if err != api.OK {
		t.Fatalf("not minted: error %d", err)
	}
	return out
}

// twin is a chain in memory of its own, with room behind each list, so that a call that writes there is seen.
func twin(c api.Chain) api.Chain {
	c.Coins, c.Counts = roomy(c.Coins), roomy(c.Counts)
	c.Judge = api.Judge{Holds: roomy(c.Judge.Holds), Cases: roomy(c.Judge.Cases)}
	for i, k := range c.Judge.Cases {
		c.Judge.Cases[i].Exits = roomy(k.Exits)
		for n, e := range k.Exits {
			c.Judge.Cases[i].Exits[n].Allocs = roomy(e.Allocs)
		}
	}
	return c
}

func roomy[T any](l []T) []T {
	if len(l) == 0 {
		return nil
	}
	return append(make([]T, 0, len(l)+3), l...)
}

// wipe overwrites all memory of a chain.
func wipe(c api.Chain) {
	for _, k := range c.Judge.Cases {
		for _, e := range k.Exits {
			clear(e.Allocs[:cap(e.Allocs)])
		}
		clear(k.Exits[:cap(k.Exits)])
	}
	clear(c.Judge.Cases[:cap(c.Judge.Cases)])
	clear(c.Judge.Holds[:cap(c.Judge.Holds)])
	clear(c.Coins[:cap(c.Coins)])
	clear(c.Counts[:cap(c.Counts)])
}

// behind tells whether there is nothing but zero values in the room behind a chain's lists.
func behind(c api.Chain) bool {
	ok := isBlank(c.Coins) && isBlank(c.Counts) && isBlank(c.Judge.Holds) && isBlank(c.Judge.Cases)
	for _, k := range c.Judge.Cases {
		ok = ok && isBlank(k.Exits)
		for _, e := range k.Exits {
			ok = ok && isBlank(e.Allocs)
		}
	}
	return ok
}

func isBlank[T any](l []T) bool {
	for _, x := range l[len(l):cap(l)] {
		if !reflect.ValueOf(x).IsZero() {
			return false
		}
	}
	return true
}

// want fails the test unless a chain is as it should be, and its error; lists that are empty must be none.
func want(t *testing.T, what string, got api.Chain, err api.Errno, c api.Chain, e api.Errno) {
	t.Helper()
	if err != e {
		t.Errorf("%s: error %d, want %d", what, err, e)
	}
	if !reflect.DeepEqual(got, c) {
		t.Errorf("%s (error %d):\n%v\nwant\n%v", what, err, got, c)
	}
}

// wantApplied is want of Apply, by the whole receipt.
func wantApplied(t *testing.T, what string, got api.Chain, r api.Receipt, c api.Chain, s api.Receipt) {
	t.Helper()
	if r != s {
		t.Errorf("%s: %v, want %v", what, r, s)
	}
	want(t, what, got, r.Err, c, s.Err)
}

// large is a number as one of any size.
func large(u api.U) *big.Int {
	out := new(big.Int)
	for _, part := range slices.Backward(u[:]) {
		out.Lsh(out, 64)
		out.Or(out, new(big.Int).SetUint64(part))
	}
	return out
}

func isLarge(n *big.Int) bool { return n.BitLen() > 256 }

// plainAll is how much of each asset there is, in accounts and held, of any size.
func plainAll(c api.Chain) map[string]*big.Int {
	out := map[string]*big.Int{}
	add := func(of string, n api.U) {
		if out[of] == nil {
			out[of] = new(big.Int)
		}
		out[of].Add(out[of], large(n))
	}
	for _, k := range c.Coins {
		add(k.Asset, k.Amount)
	}
	for _, h := range c.Judge.Holds {
		add(h.Asset, h.Amount)
	}
	return out
}

// plainFit is the chapter's sentence on chains.
func plainFit(c api.Chain) bool {
	fits := c.Now > 0 && c.Now <= 1099511627776 && acct.Fit(c.Coins) && judge.Fit(c.Judge) && len(c.Counts) < 1001
	for _, n := range plainAll(c) {
		fits = fits && !isLarge(n)
	}
	last := ""
	for _, k := range c.Counts {
		fits = fits && len(k.Who) == 20 && k.Who > last && k.N > 0 && k.N <= 1099511627776
		last = k.Who
	}
	return fits
}

// plainCounts are an address's transactions, and whether there are some.
func plainCounts(c api.Chain, w string) (uint64, bool) {
	for _, k := range c.Counts {
		if k.Who == w {
			return k.N, true
		}
	}
	return 0, false
}

// plainApply is the chapter's sentence on Apply.
func plainApply(c api.Chain, raw string) (api.Chain, api.Receipt) {
	x, w, err := call.Open(raw)
	if err != api.OK {
		return c, api.Receipt{Err: err}
	}
	n, there := plainCounts(c, w)
	if x.Nonce != n || x.Nonce == 1099511627776 {
		return c, api.Receipt{Who: w, Err: api.ErrNonce}
	}
	if !there && len(c.Counts) == 1000 {
		return c, api.Receipt{Who: w, Err: api.ErrMany}
	}
	paid := c
	if paid.Coins, err = plainPass(c.Coins, w, rep(255, 20), rep(0, 20), api.U{1}); err != api.OK {
		return c, api.Receipt{Who: w, Err: err}
	}
	paid.Counts = []api.Count{{Who: w, N: n + 1}}
	for _, k := range c.Counts {
		if k.Who != w {
			paid.Counts = append(paid.Counts, k)
		}
	}
	slices.SortFunc(paid.Counts, func(a, b api.Count) int { return strings.Compare(a.Who, b.Who) })
	done, err := plainDone(paid, x, w)
	if err != api.OK {
		return paid, api.Receipt{Who: w, Taken: true, Err: err}
	}
	return done, api.Receipt{Who: w, Taken: true}
}

// plainPass is what goes from one to another.
func plainPass(l []api.Coin, from, to, of string, n api.U) ([]api.Coin, api.Errno) {
	l, err := acct.Take(l, from, of, n)
	if err != api.OK {
		return nil, err
	}
	return acct.Give(l, to, of, n)
}

// plainDone is the chapter's sentence on what is done.
func plainDone(c api.Chain, x api.Tx, w string) (api.Chain, api.Errno) {
	err := api.OK
	switch x.Kind {
	case 0:
		c.Coins, err = plainPass(c.Coins, w, x.To, x.Asset, x.Amount)
	case 1:
		if c.Coins, err = acct.Take(c.Coins, w, x.Asset, x.Amount); err == api.OK {
			c.Judge, err = judge.Deposit(c.Judge, x.Channel, x.Asset, x.Expect, x.Amount)
		}
	case 2:
		c.Judge, err = judge.Challenge(c.Judge, c.Now, x.Fixed, x.Proof)
	case 3:
		c.Judge, err = judge.Checkpoint(c.Judge, c.Now, x.Fixed, x.Proof)
	case 4:
		c.Judge, err = judge.Conclude(c.Judge, c.Now, x.Fixed, x.Proof)
	case 5:
		var coins []api.Coin
		c.Judge, coins, err = judge.Transfer(c.Judge, c.Now, x.Channel, x.Asset, x.Which)
		for _, k := range coins {
			if err == api.OK {
				c.Coins, err = acct.Give(c.Coins, k.Who, k.Asset, k.Amount)
			}
		}
	case 6:
		c.Judge, err = judge.Claim(c.Judge, c.Now, x.Channel, x.Asset, x.Index)
	}
	return c, err
}
