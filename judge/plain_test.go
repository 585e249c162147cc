package judge

import (
	"math/big"
	"reflect"
	"slices"
	"strings"
	"testing"

	"truce/api"
	"truce/claim"
	"truce/key"
	"truce/pay"
	"truce/proof"
	"truce/state"
)

const top = 1<<64 - 1

// most is 2^256 - 1.
func most() api.U { return api.U{top, top, top, top} }

// mix is a fixed row of numbers that look mixed: the tests must go alike each time.
func mix(seed *uint64) uint64 {
	*seed += 0x9e3779b97f4a7c15
	z := *seed
	z = (z ^ z>>30) * 0xbf58476d1ce4e5b9
	z = (z ^ z>>27) * 0x94d049bb133111eb
	return z ^ z>>31
}

func below(seed *uint64, n int) int { return int(mix(seed) % uint64(n)) }

func rep(b byte, n int) string { return strings.Repeat(string([]byte{b}), n) }

// ch is a channel of one byte, over and over; of 0 it would be an address's destination.
func ch(b byte) string { return rep(b, 32) }

func asset(b byte) string { return rep(b, 20) }

// who is an address, to is where its money goes.
func who(b byte) string { return rep(b, 20) }

func to(b byte) string { return rep(0, 12) + who(b) }

func hold(channel, of byte, n uint64) api.Hold {
	return api.Hold{Channel: ch(channel), Asset: asset(of), Amount: api.U{n}}
}

func coin(b, of byte, n uint64) api.Coin {
	return api.Coin{Who: who(b), Asset: asset(of), Amount: api.U{n}}
}

func plain(dest string, n uint64) api.Alloc { return api.Alloc{Dest: dest, Amount: api.U{n}} }

func bound(channel byte, n uint64, left, right string) api.Alloc {
	return api.Alloc{Dest: ch(channel), Amount: api.U{n}, Kind: api.PayBound, Left: left, Right: right}
}

func exit(of byte, l ...api.Alloc) api.Exit { return api.Exit{Asset: asset(of), Allocs: l} }

// known is a case of a turn, which ends at 5; no other test's digest is like it.
func known(channel byte, turn uint64, exits ...api.Exit) api.Case {
	return api.Case{Channel: ch(channel), Turn: turn, Ends: 5, Digest: rep(channel+100, 32), Exits: exits}
}

// manyHolds are n of 1 each, of one asset, of channels that rise by their last two bytes, which are even numbers.
func manyHolds(n int, of byte) []api.Hold {
	var out []api.Hold
	for i := range n {
		out = append(out, api.Hold{Channel: rep(9, 30) + string([]byte{byte(i >> 7), byte(2 * i)}), Asset: asset(of), Amount: api.U{1}})
	}
	return out
}

func manyCases(n int) []api.Case {
	var out []api.Case
	for _, h := range manyHolds(n, 1) {
		out = append(out, api.Case{Channel: h.Channel, Digest: rep(1, 32)})
	}
	return out
}

// channel is a fit one of n participants, whose keys are keyOf.
func channel(t testing.TB, n, time int, nonce uint64) api.Fixed {
	t.Helper()
	f := api.Fixed{Time: time, Nonce: nonce}
	for i := range n {
		address, err := key.Who(keyOf(i))
		if err != api.OK {
			t.Fatalf("no key %d", i)
		}
		f.Parts = append(f.Parts, address)
	}
	return f
}

func keyOf(part int) api.U { return key.Small(uint64(10 + part)) }

// signed is a state with the seals of participants.
func signed(t testing.TB, f api.Fixed, v api.Var, parts ...int) api.Signed {
	t.Helper()
	s, err := api.Signed{Var: v}, api.OK
	for _, p := range parts {
		if s, err = proof.Sign(f, s, keyOf(p)); err != api.OK {
			t.Fatalf("not signed: %d", err)
		}
	}
	return s
}

// byAll is a proof by a state that all participants signed.
func byAll(t testing.TB, f api.Fixed, v api.Var) []api.Signed {
	t.Helper()
	s := signed(t, f, v)
	for p := range f.Parts {
		s.Seals = append(s.Seals, signed(t, f, v, p).Seals...)
	}
	return []api.Signed{s}
}

// laid is the case of a state that was laid down.
func laid(f api.Fixed, v api.Var, ends int) api.Case {
	return api.Case{Channel: state.Id(f), Turn: v.Turn, Ends: ends, Digest: state.Digest(f, v), Exits: v.Exits}
}

// twin is a judge in memory of its own, with room behind each list, so that a call that writes there is seen.
func twin(j api.Judge) api.Judge {
	out := api.Judge{Holds: roomy(j.Holds), Cases: roomy(j.Cases)}
	for i, c := range out.Cases {
		out.Cases[i].Exits = roomy(c.Exits)
		for k, e := range c.Exits {
			out.Cases[i].Exits[k].Allocs = roomy(e.Allocs)
		}
	}
	return out
}

func roomy[T any](l []T) []T {
	if len(l) == 0 {
		return nil
	}
	return append(make([]T, 0, len(l)+3), l...)
}

// wipe overwrites all memory of a judge.
func wipe(j api.Judge) {
	for _, c := range j.Cases {
		for _, e := range c.Exits {
			clear(e.Allocs[:cap(e.Allocs)])
		}
		clear(c.Exits[:cap(c.Exits)])
	}
	clear(j.Cases[:cap(j.Cases)])
	clear(j.Holds[:cap(j.Holds)])
}

// want fails the test unless a judge is as it should be, and its error; lists that are empty must be none.
func want(t *testing.T, what string, got api.Judge, err api.Errno, j api.Judge, e api.Errno) {
	t.Helper()
	if err != e {
		t.Errorf("%s: error %d, want %d", what, err, e)
	}
	if !reflect.DeepEqual(got, j) {
		t.Errorf("%s (error %d):\n%v\nwant\n%v", what, err, got, j)
	}
}

// large is a number as one of any size.
func large(u api.U) *big.Int {
	out := new(big.Int)
	for _, part := range slices.Backward(u[:]) {
		out.Lsh(out, 64)
		out.Or(out, new(big.Int).SetUint64(part))
	}
	return out
}

// small is a number of any size in 256 bits; false: it is below 0, or not below 2^256.
func small(n *big.Int) (api.U, bool) {
	if n.Sign() < 0 || n.BitLen() > 256 {
		return api.U{}, false
	}
	var out api.U
	rest := new(big.Int).Set(n)
	for i := range out {
		out[i] = new(big.Int).And(rest, new(big.Int).SetUint64(top)).Uint64()
		rest.Rsh(rest, 64)
	}
	return out, true
}

// pots are what is held, in the chapter's words: how much of each asset for each channel, in no order, of any size.
type pots map[[2]string]*big.Int

func potsOf(l []api.Hold) pots {
	out := pots{}
	for _, h := range l {
		out.add(h.Channel, h.Asset, large(h.Amount))
	}
	return out
}

func (p pots) add(channel, asset string, n *big.Int) {
	p[[2]string{channel, asset}] = new(big.Int).Add(p.get(channel, asset), n)
}

func (p pots) get(channel, asset string) *big.Int {
	if n := p[[2]string{channel, asset}]; n != nil {
		return n
	}
	return new(big.Int)
}

// sums has how much there is of each asset.
func (p pots) sums() map[string]*big.Int {
	out := map[string]*big.Int{}
	for at, n := range p {
		if out[at[1]] == nil {
			out[at[1]] = new(big.Int)
		}
		out[at[1]].Add(out[at[1]], n)
	}
	return out
}

func (p pots) sum(asset string) *big.Int {
	if n := p.sums()[asset]; n != nil {
		return n
	}
	return new(big.Int)
}

// list has what is not 0, sorted.
func (p pots) list(t testing.TB) []api.Hold {
	t.Helper()
	var out []api.Hold
	for at, n := range p {
		u, ok := small(n)
		if !ok {
			t.Fatalf("%v is no number of 256 bits", n)
		}
		if n.Sign() != 0 {
			out = append(out, api.Hold{Channel: at[0], Asset: at[1], Amount: u})
		}
	}
	slices.SortFunc(out, func(a, b api.Hold) int { return strings.Compare(a.Channel+a.Asset, b.Channel+b.Asset) })
	return out
}

// plainFit is the chapter's sentence on judges.
func plainFit(j api.Judge) bool {
	if len(j.Holds) > 200 || len(j.Cases) > 200 {
		return false
	}
	p := potsOf(j.Holds)
	for i, h := range j.Holds {
		if len(h.Channel) != 32 || len(h.Asset) != 20 || h.Amount == (api.U{}) {
			return false
		}
		// All have as many bytes, so that one behind the other are compared as both one after another.
		if i > 0 && j.Holds[i-1].Channel+j.Holds[i-1].Asset >= h.Channel+h.Asset {
			return false
		}
	}
	for _, n := range p.sums() {
		if _, ok := small(n); !ok {
			return false
		}
	}
	for i, c := range j.Cases {
		if len(c.Channel) != 32 || i > 0 && j.Cases[i-1].Channel >= c.Channel {
			return false
		}
		if c.Turn > 1<<40 || c.Ends < 0 || c.Ends > 1<<41 || len(c.Digest) != 32 || !state.FitVar(api.Var{Exits: c.Exits}) {
			return false
		}
	}
	return true
}

// plainCase is a channel's case; false: there is none.
func plainCase(j api.Judge, channel string) (api.Case, bool) {
	for _, c := range j.Cases {
		if c.Channel == channel {
			return c, true
		}
	}
	return api.Case{}, false
}

func plainFinal(j api.Judge, now int, channel string) bool {
	c, _ := plainCase(j, channel)
	return now >= 1 && now <= 1<<40 && c.Ends > 0 && c.Ends <= now
}

// plainLay is what is laid down of a state.
func plainLay(j api.Judge, c api.Case) (api.Judge, api.Errno) {
	out := api.Judge{Holds: j.Holds, Cases: []api.Case{c}}
	for _, other := range j.Cases {
		if other.Channel != c.Channel {
			out.Cases = append(out.Cases, other)
		}
	}
	if len(out.Cases) > 200 {
		return j, api.ErrMany
	}
	slices.SortFunc(out.Cases, func(a, b api.Case) int { return strings.Compare(a.Channel, b.Channel) })
	return out, api.OK
}

// plainDeposit, plainChallenge, plainCheckpoint, plainConclude, plainTransfer and plainClaim are the chapter's sentences one after another.
func plainDeposit(t testing.TB, j api.Judge, channel, asset string, expect, n api.U) (api.Judge, api.Errno) {
	t.Helper()
	if len(channel) != 32 || len(asset) != 20 {
		return j, api.ErrForm
	}
	p := potsOf(j.Holds)
	if p.get(channel, asset).Cmp(large(expect)) != 0 {
		return j, api.ErrState
	}
	if _, ok := small(new(big.Int).Add(p.sum(asset), large(n))); !ok {
		return j, api.ErrOver
	}
	p.add(channel, asset, large(n))
	l := p.list(t)
	if len(l) > 200 {
		return j, api.ErrMany
	}
	return api.Judge{Holds: l, Cases: j.Cases}, api.OK
}

func plainChallenge(j api.Judge, now int, f api.Fixed, v api.Var, err api.Errno) (api.Judge, api.Errno) {
	c, there := plainCase(j, state.Id(f))
	switch {
	case now < 1 || now > 1<<40:
		return j, api.ErrTime
	case err != api.OK:
		return j, err
	case plainFinal(j, now, state.Id(f)):
		return j, api.ErrFinal
	case there && v.Turn < c.Turn:
		return j, api.ErrTurn
	case there && c.Ends > 0 && !(v.Turn > c.Turn):
		return j, api.ErrTurn
	}
	return plainLay(j, laid(f, v, now+f.Time))
}

func plainCheckpoint(j api.Judge, now int, f api.Fixed, v api.Var, err api.Errno) (api.Judge, api.Errno) {
	c, there := plainCase(j, state.Id(f))
	switch {
	case now < 1 || now > 1<<40:
		return j, api.ErrTime
	case err != api.OK:
		return j, err
	case plainFinal(j, now, state.Id(f)):
		return j, api.ErrFinal
	case there && !(v.Turn > c.Turn):
		return j, api.ErrTurn
	}
	return plainLay(j, laid(f, v, 0))
}

func plainConclude(j api.Judge, now int, f api.Fixed, n int, v api.Var, err api.Errno) (api.Judge, api.Errno) {
	switch {
	case now < 1 || now > 1<<40:
		return j, api.ErrTime
	case err != api.OK:
		return j, err
	case n > 1 || !v.Final:
		return j, api.ErrOpen
	case plainFinal(j, now, state.Id(f)):
		return j, api.ErrFinal
	}
	return plainLay(j, laid(f, v, now))
}

// plainExit is what a channel's outcome has of an asset; false: no exit.
func plainExit(j api.Judge, channel, asset string) ([]api.Alloc, bool) {
	c, _ := plainCase(j, channel)
	for _, e := range c.Exits {
		if e.Asset == asset {
			return e.Allocs, true
		}
	}
	return nil, false
}

// plainWith is a judge in whose case of a channel an exit has these allocations.
func plainWith(j api.Judge, channel, asset string, l []api.Alloc) api.Judge {
	out := twin(j)
	for _, c := range out.Cases {
		for k, e := range c.Exits {
			if c.Channel == channel && e.Asset == asset {
				c.Exits[k].Allocs = l
			}
		}
	}
	return out
}

func plainTransfer(t testing.TB, j api.Judge, now int, channel, asset string, which []int) (api.Judge, []api.Coin, api.Errno) {
	t.Helper()
	l, there := plainExit(j, channel, asset)
	switch {
	case now < 1 || now > 1<<40:
		return j, nil, api.ErrTime
	case !plainFinal(j, now, channel):
		return j, nil, api.ErrOpen
	case !there:
		return j, nil, api.ErrNone
	}
	p := potsOf(j.Holds)
	held, _ := small(p.get(channel, asset))
	rest, paid, left, err := pay.Transfer(held, l, which)
	if err != api.OK {
		return j, nil, err
	}
	p[[2]string{channel, asset}] = large(left)
	var coins []api.Coin
	for i, n := range paid {
		dest := l[i].Dest
		if dest[:12] != rep(0, 12) {
			p.add(dest, asset, large(n))
		} else if n != (api.U{}) {
			coins = append(coins, api.Coin{Who: dest[12:], Asset: asset, Amount: n})
		}
	}
	out := plainWith(j, channel, asset, rest)
	out.Holds = p.list(t)
	if len(out.Holds) > 200 {
		return j, nil, api.ErrMany
	}
	return out, coins, api.OK
}

func plainClaim(j api.Judge, now int, channel, asset string, k int) (api.Judge, api.Errno) {
	l, there := plainExit(j, channel, asset)
	switch {
	case now < 1 || now > 1<<40:
		return j, api.ErrTime
	case !plainFinal(j, now, channel):
		return j, api.ErrOpen
	case !there:
		return j, api.ErrNone
	case k < 0 || k >= len(l):
		return j, api.ErrRange
	case !plainFinal(j, now, l[k].Dest):
		return j, api.ErrOpen
	}
	inner, _ := plainExit(j, l[k].Dest, asset)
	rest, err := claim.Reclaim(l, k, inner)
	if err != api.OK {
		return j, err
	}
	return plainWith(j, channel, asset, rest), api.OK
}
