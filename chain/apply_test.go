package chain

import (
	"slices"
	"strings"
	"testing"

	"truce/acct"
	"truce/api"
	"truce/call"
	"truce/state"
)

// send is a transaction that sends so much of an asset.
func send(nonce uint64, to string, of byte, n uint64) api.Tx {
	return api.Tx{Kind: api.TxSend, Nonce: nonce, To: to, Asset: asset(of), Amount: api.U{n}}
}

// after is a chain whose accounts are these, and one more transaction of an address is counted.
func after(t testing.TB, c api.Chain, w string, coins ...api.Coin) api.Chain {
	t.Helper()
	c.Coins = slices.Clone(coins)
	slices.SortFunc(c.Coins, func(a, b api.Coin) int { return strings.Compare(a.Who+a.Asset, b.Who+b.Asset) })
	n, _ := plainCounts(c, w)
	counts := []api.Count{{Who: w, N: n + 1}}
	for _, k := range c.Counts {
		if k.Who != w {
			counts = append(counts, k)
		}
	}
	c.Counts = counts
	slices.SortFunc(c.Counts, func(a, b api.Count) int { return strings.Compare(a.Who, b.Who) })
	return c
}

// P21.3: the chapter's example, by the key 10.
func TestApplySends(t *testing.T) {
	me := mine(t, 0)
	c := minted(t, api.Chain{Now: 1}, me, 0, 10)
	raw := wrap(t, 0, send(0, who(7), 0, 4))
	got, r := Apply(c, raw)
	next := after(t, c, me, coin(me, 0, 5), coin(who(7), 0, 4), coin(who(255), 0, 1))
	wantApplied(t, "4 of 10", got, r, next, api.Receipt{Who: me, Taken: true})
	again, r := Apply(got, raw)
	wantApplied(t, "once more", again, r, next, api.Receipt{Who: me, Err: api.ErrNonce})
}

// P21.3: what is told and left of bytes that are no transaction: the error alone.
func TestApplyBytes(t *testing.T) {
	c := rich(t, 9, 5, 5)
	raw := wrap(t, 0, send(0, who(7), 0, 4))
	seal := len(raw) - 65
	for what, bad := range map[string]string{
		"none":                   "",
		"64 bytes":               raw[:64],
		"a seal alone":           raw[seal:],
		"one byte less":          raw[:len(raw)-1],
		"one byte more":          raw + "\x00",
		"no seal":                raw[:seal],
		"a kind that is none":    raw[:31] + "\x07" + raw[32:],
		"a seal of R 0":          raw[:seal] + rep(0, 32) + raw[seal+32:],
		"a seal of a greater S":  raw[:seal+32] + rep(255, 32) + raw[seal+64:],
		"a seal's last byte 2":   raw[:len(raw)-1] + "\x02",
		"bytes 0":                rep(0, 900),
		"the transaction, twice": raw[:seal] + raw,
	} {
		_, _, err := call.Open(bad)
		if err == api.OK {
			t.Errorf("%s: that is a transaction", what)
		}
		got, r := Apply(c, bad)
		wantApplied(t, what, got, r, c, api.Receipt{Err: err})
	}
	got, r := Apply(c, raw[:64])
	wantApplied(t, "too short", got, r, c, api.Receipt{Err: api.ErrShort})
}

// P21.3: whose a transaction is is told by its seal: another byte of it, or another seal, is another one's.
func TestApplyWhose(t *testing.T) {
	c := rich(t, 9, 5, 5)
	got, r := Apply(c, wrap(t, 2, send(0, who(7), 1, 5)))
	me := mine(t, 2)
	if r != (api.Receipt{Who: me, Taken: true}) || acct.Get(got.Coins, me, asset(1)) != (api.U{}) || acct.Get(got.Coins, me, asset(0)) != (api.U{4}) {
		t.Errorf("by the key 2: %v, %v", r, got.Coins)
	}
	// Sealed by the key 0, but with a byte changed: nobody has money, whoever that is.
	raw := wrap(t, 0, send(0, who(7), 1, 5))
	bad := raw[:40] + "\x01" + raw[41:]
	if _, _, err := call.Open(bad); err == api.OK {
		t.Fatal("a nonce of more than 2^40 is fit")
	}
	at := strings.Index(raw, who(7)) + 3
	bad = raw[:at] + "\x08" + raw[at+1:]
	got, r = Apply(c, bad)
	_, w, err := call.Open(bad)
	if err != api.OK || w == me {
		t.Fatalf("opened by %x, error %d", w, err)
	}
	wantApplied(t, "a byte changed", got, r, c, api.Receipt{Who: w, Err: api.ErrFunds})
}

// P21.3: the nonce must be the next one.
func TestApplyNonce(t *testing.T) {
	me := mine(t, 0)
	c := rich(t, 9, 5, 5)
	for _, n := range []struct {
		n     uint64 // how many were taken
		nonce uint64
		taken bool
	}{
		{0, 0, true}, {0, 1, false}, {0, 1 << 40, false},
		{3, 3, true}, {3, 2, false}, {3, 4, false}, {3, 0, false},
		{1<<40 - 1, 1<<40 - 1, true}, {1<<40 - 1, 1 << 40, false}, {1<<40 - 1, 1<<40 - 2, false},
		{1 << 40, 1 << 40, false}, {1 << 40, 1<<40 - 1, false}, {1 << 40, 0, false},
	} {
		c.Counts = []api.Count{{Who: who(0), N: 8}, {Who: me, N: n.n}, {Who: who(255), N: 9}}
		if n.n == 0 {
			c.Counts = []api.Count{{Who: who(0), N: 8}, {Who: who(255), N: 9}}
		}
		got, r := Apply(c, wrap(t, 0, send(n.nonce, me, 1, 0)))
		if !n.taken {
			wantApplied(t, "another one", got, r, c, api.Receipt{Who: me, Err: api.ErrNonce})
			continue
		}
		next := c
		next.Counts = []api.Count{{Who: who(0), N: 8}, {Who: me, N: n.n + 1}, {Who: who(255), N: 9}}
		next.Coins = got.Coins
		wantApplied(t, "the next one", got, r, next, api.Receipt{Who: me, Taken: true})
		if !Fit(got) {
			t.Errorf("after %d: not fit", n.nonce)
		}
	}
}

// P21.3: of a thousand counts there is no place for another one.
func TestApplyCounts(t *testing.T) {
	me := mine(t, 0)
	c := rich(t, 9, 5, 5)
	c.Counts = manyCounts(1000)
	got, r := Apply(c, wrap(t, 0, send(0, me, 1, 0)))
	wantApplied(t, "the 1001st", got, r, c, api.Receipt{Who: me, Err: api.ErrMany})
	got, r = Apply(c, wrap(t, 0, send(1, me, 1, 0)))
	wantApplied(t, "the 1001st, of another number", got, r, c, api.Receipt{Who: me, Err: api.ErrNonce})
	poor := api.Chain{Now: 1, Counts: manyCounts(1000)}
	got, r = Apply(poor, wrap(t, 0, send(0, me, 1, 0)))
	wantApplied(t, "the 1001st without money", got, r, poor, api.Receipt{Who: me, Err: api.ErrMany})
	for _, place := range []int{0, 500, 998} {
		c.Counts = manyCounts(999)
		got, r = Apply(c, wrap(t, 0, send(0, me, 1, 0)))
		if r != (api.Receipt{Who: me, Taken: true}) || len(got.Counts) != 1000 || Next(got, me) != 1 || !Fit(got) {
			t.Errorf("the thousandth: %v, %d counts", r, len(got.Counts))
		}
		got, r = Apply(got, wrap(t, 0, send(1, me, 1, 0)))
		if r != (api.Receipt{Who: me, Taken: true}) || len(got.Counts) != 1000 || Next(got, me) != 2 {
			t.Errorf("of a thousand: %v, %d counts", r, len(got.Counts))
		}
		if Next(got, small(place)) != 1 {
			t.Errorf("the count %d has changed", place)
		}
	}
}

// P21.3: the fee is paid ahead of all else, or the transaction is not taken.
func TestApplyFee(t *testing.T) {
	me := mine(t, 0)
	nothing := send(0, me, 1, 0)
	taken := api.Receipt{Who: me, Taken: true}
	// The address is in no account's way, so that what the test gives stands among the thousand.
	with := func(l []api.Coin, own ...api.Coin) api.Chain {
		c := api.Chain{Now: 1, Coins: append(slices.Clone(l), own...)}
		slices.SortFunc(c.Coins, func(a, b api.Coin) int { return strings.Compare(a.Who+a.Asset, b.Who+b.Asset) })
		return c
	}
	fees := coin(who(255), 0, 7)
	for _, m := range []struct {
		what string
		c    api.Chain
		want api.Receipt
	}{
		{"1", with(nil, coin(me, 0, 1)), taken},
		{"1, of more", with(nil, coin(me, 0, 1), coin(me, 1, 5), fees), taken},
		{"none", with(nil), api.Receipt{Who: me, Err: api.ErrFunds}},
		{"of another asset alone", with(nil, coin(me, 1, 5), fees), api.Receipt{Who: me, Err: api.ErrFunds}},
		{"another one's", with(nil, coin(who(1), 0, 5), fees), api.Receipt{Who: me, Err: api.ErrFunds}},
		{"a high number", with(nil, api.Coin{Who: me, Asset: asset(0), Amount: api.U{0, 0, 0, 1}}), taken},
		{"all there can be", with(nil, api.Coin{Who: me, Asset: asset(0), Amount: most()}), taken},
		{"no place for what was paid", with(manyCoins(999, 1), coin(me, 0, 2)), api.Receipt{Who: me, Err: api.ErrMany}},
		{"a place that gets free", with(manyCoins(999, 1), coin(me, 0, 1)), taken},
		{"the place that is there", with(manyCoins(998, 1), coin(me, 0, 2), fees), taken},
		{"the last place", with(manyCoins(998, 1), coin(me, 0, 2)), taken},
	} {
		got, r := Apply(m.c, wrap(t, 0, nothing))
		if !m.want.Taken {
			wantApplied(t, m.what, got, r, m.c, m.want)
			continue
		}
		next := m.c
		next.Coins, _ = acct.Take(next.Coins, me, asset(0), api.U{1})
		next.Coins, _ = acct.Give(next.Coins, who(255), asset(0), api.U{1})
		next.Counts = []api.Count{{Who: me, N: 1}}
		wantApplied(t, m.what, got, r, next, m.want)
	}
}

// P21.3: what is sent goes from who sealed it to To; with an error the fee alone is gone.
func TestApplySend(t *testing.T) {
	me, you := mine(t, 0), who(7)
	c := minted(t, api.Chain{Now: 3}, you, 1, 2)
	c = minted(t, minted(t, c, me, 0, 5), me, 1, 6)
	fee, left := coin(who(255), 0, 1), coin(me, 0, 4)
	for _, m := range []struct {
		what string
		x    api.Tx
		err  api.Errno
		want []api.Coin
	}{
		{"some", send(0, you, 1, 4), 0, []api.Coin{coin(you, 1, 6), left, coin(me, 1, 2), fee}},
		{"all", send(0, you, 1, 6), 0, []api.Coin{coin(you, 1, 8), left, fee}},
		{"1 more than all", send(0, you, 1, 7), api.ErrFunds, []api.Coin{coin(you, 1, 2), left, coin(me, 1, 6), fee}},
		{"nothing", send(0, you, 1, 0), 0, []api.Coin{coin(you, 1, 2), left, coin(me, 1, 6), fee}},
		{"of what is not there", send(0, you, 2, 1), api.ErrFunds, []api.Coin{coin(you, 1, 2), left, coin(me, 1, 6), fee}},
		{"to itself", send(0, me, 1, 6), 0, []api.Coin{coin(you, 1, 2), left, coin(me, 1, 6), fee}},
		{"to itself, more than all", send(0, me, 1, 7), api.ErrFunds, []api.Coin{coin(you, 1, 2), left, coin(me, 1, 6), fee}},
		{"all that the fee leaves", send(0, you, 0, 4), 0, []api.Coin{coin(you, 0, 4), coin(you, 1, 2), coin(me, 1, 6), fee}},
		{"what the fee took", send(0, you, 0, 5), api.ErrFunds, []api.Coin{coin(you, 1, 2), left, coin(me, 1, 6), fee}},
		{"to the fees' address", send(0, who(255), 0, 3), 0, []api.Coin{coin(you, 1, 2), coin(me, 0, 1), coin(me, 1, 6), coin(who(255), 0, 4)}},
		{"all there can be", api.Tx{To: you, Asset: asset(1), Amount: most()}, api.ErrFunds, []api.Coin{coin(you, 1, 2), left, coin(me, 1, 6), fee}},
	} {
		got, r := Apply(c, wrap(t, 0, m.x))
		wantApplied(t, m.what, got, r, after(t, c, me, m.want...), api.Receipt{Who: me, Taken: true, Err: m.err})
	}
}

// P21.3 and P21.5: where the receiver finds no place, the sender has all back, but for the fee.
func TestApplySendMany(t *testing.T) {
	me := mine(t, 0)
	c := api.Chain{Now: 1, Coins: manyCoins(997, 1)}
	c = minted(t, minted(t, minted(t, c, me, 0, 2), me, 1, 2), who(255), 0, 1)
	for _, m := range []struct {
		what string
		x    api.Tx
		err  api.Errno
	}{
		{"a part", send(0, who(200), 1, 1), api.ErrMany},
		{"all", send(0, who(200), 1, 2), 0},
		{"all but what the fee takes", send(0, who(200), 0, 1), 0},
		{"to one of a thousand", send(0, small(9), 1, 1), 0},
		{"nothing", send(0, who(200), 1, 0), 0},
	} {
		coins, err := plainPass(c.Coins, me, who(255), asset(0), api.U{1})
		if err == api.OK && m.err == api.OK {
			coins, err = plainPass(coins, me, m.x.To, m.x.Asset, m.x.Amount)
		}
		if err != api.OK {
			t.Fatalf("%s: error %d", m.what, err)
		}
		got, r := Apply(c, wrap(t, 0, m.x))
		wantApplied(t, m.what, got, r, after(t, c, me, coins...), api.Receipt{Who: me, Taken: true, Err: m.err})
	}
}

// P21.3: what is deposited goes from an account to what is held for a channel.
func TestApplyDeposit(t *testing.T) {
	me := mine(t, 0)
	base := minted(t, minted(t, api.Chain{Now: 3}, me, 0, 5), me, 1, 6)
	base.Judge.Holds = []api.Hold{hold(2, 1, 3)}
	full := base
	full.Judge.Holds = append(full.Judge.Holds, manyHolds(199, 2)...)
	deposit := func(channel, of byte, expect, n uint64) api.Tx {
		return api.Tx{Kind: api.TxDeposit, Channel: ch(channel), Asset: asset(of), Expect: api.U{expect}, Amount: api.U{n}}
	}
	fee, left, rest := coin(who(255), 0, 1), coin(me, 0, 4), coin(me, 1, 6)
	none := []api.Coin{left, rest, fee}
	for _, m := range []struct {
		what  string
		c     api.Chain
		x     api.Tx
		err   api.Errno
		coins []api.Coin
		holds []api.Hold
	}{
		{"for a channel", base, deposit(1, 1, 0, 4), 0, []api.Coin{left, coin(me, 1, 2), fee}, []api.Hold{hold(1, 1, 4), hold(2, 1, 3)}},
		{"more for one", base, deposit(2, 1, 3, 6), 0, []api.Coin{left, fee}, []api.Hold{hold(2, 1, 9)}},
		{"of the fee's asset", base, deposit(2, 0, 0, 4), 0, []api.Coin{rest, fee}, []api.Hold{hold(2, 0, 4), hold(2, 1, 3)}},
		{"what the fee took", base, deposit(2, 0, 0, 5), api.ErrFunds, none, base.Judge.Holds},
		{"more than there is", base, deposit(1, 1, 0, 7), api.ErrFunds, none, base.Judge.Holds},
		{"less held than expected", base, deposit(2, 1, 4, 1), api.ErrState, none, base.Judge.Holds},
		{"more held than expected", base, deposit(2, 1, 0, 1), api.ErrState, none, base.Judge.Holds},
		{"more than there is, and another state", base, deposit(2, 1, 0, 7), api.ErrFunds, none, base.Judge.Holds},
		{"nothing", base, deposit(1, 1, 0, 0), 0, none, base.Judge.Holds},
		{"nothing, another state", base, deposit(1, 1, 1, 0), api.ErrState, none, base.Judge.Holds},
		{"the 201st", full, deposit(1, 1, 0, 1), api.ErrMany, none, full.Judge.Holds},
		{"one of 200", full, deposit(2, 1, 3, 1), 0, []api.Coin{left, coin(me, 1, 5), fee}, append([]api.Hold{hold(2, 1, 4)}, full.Judge.Holds[1:]...)},
	} {
		got, r := Apply(m.c, wrap(t, 0, m.x))
		next := after(t, m.c, me, m.coins...)
		next.Judge.Holds = m.holds
		wantApplied(t, m.what, got, r, next, api.Receipt{Who: me, Taken: true, Err: m.err})
	}
}

// P21.3: states are laid down by challenges, checkpoints and conclusions, at the chain's moment.
func TestApplyStates(t *testing.T) {
	me := mine(t, 2)
	f := channel(t, 60, 1)
	v := api.Var{Turn: 5, Exits: []api.Exit{exit(1, plain(ch(9), 3))}}
	last := v
	last.Turn, last.Final = 6, true
	later := v
	later.Turn = 9
	open, final, newer := byAll(t, f, v), byAll(t, f, last), byAll(t, f, later)
	half := []api.Signed{by(t, f, last, 0)}
	c := rich(t, 40, 5, 5)
	at := func(ends int) api.Chain {
		out := c
		out.Judge.Cases = []api.Case{laid(f, v, ends), known(255, 1)}
		return out
	}
	lay := func(kind int, l []api.Signed) api.Tx { return api.Tx{Kind: kind, Fixed: f, Proof: l} }
	fresh := c
	fresh.Judge.Cases = at(0).Judge.Cases[1:]
	for _, m := range []struct {
		what string
		c    api.Chain
		x    api.Tx
		err  api.Errno
		want api.Case
	}{
		{"challenge", fresh, lay(api.TxChallenge, open), 0, laid(f, v, 100)},
		{"checkpoint", fresh, lay(api.TxCheckpoint, open), 0, laid(f, v, 0)},
		{"conclude", fresh, lay(api.TxConclude, final), 0, laid(f, last, 40)},
		{"conclude what is open", fresh, lay(api.TxConclude, open), api.ErrOpen, api.Case{}},
		{"challenge by a half", fresh, lay(api.TxChallenge, half), api.ErrProof, api.Case{}},
		{"checkpoint by a half", fresh, lay(api.TxCheckpoint, half), api.ErrProof, api.Case{}},
		{"conclude by a half", fresh, lay(api.TxConclude, half), api.ErrProof, api.Case{}},
		{"challenge the same turn", at(0), lay(api.TxChallenge, open), 0, laid(f, v, 100)},
		{"checkpoint the same turn", at(0), lay(api.TxCheckpoint, open), api.ErrTurn, laid(f, v, 0)},
		{"challenge once more", at(41), lay(api.TxChallenge, open), api.ErrTurn, laid(f, v, 41)},
		{"challenge a challenge", at(41), lay(api.TxChallenge, newer), 0, laid(f, later, 100)},
		{"checkpoint a challenge", at(41), lay(api.TxCheckpoint, newer), 0, laid(f, later, 0)},
		{"conclude a challenge", at(41), lay(api.TxConclude, final), 0, laid(f, last, 40)},
		{"challenge behind the end", at(40), lay(api.TxChallenge, newer), api.ErrFinal, laid(f, v, 40)},
		{"checkpoint behind the end", at(40), lay(api.TxCheckpoint, newer), api.ErrFinal, laid(f, v, 40)},
		{"conclude behind the end", at(40), lay(api.TxConclude, final), api.ErrFinal, laid(f, v, 40)},
	} {
		got, r := Apply(m.c, wrap(t, 2, m.x))
		coins, _ := plainPass(m.c.Coins, me, who(255), asset(0), api.U{1})
		next := after(t, m.c, me, coins...)
		next.Judge.Cases = []api.Case{m.want, known(255, 1)}
		if m.want.Channel == "" {
			next.Judge.Cases = fresh.Judge.Cases
		}
		slices.SortFunc(next.Judge.Cases, func(a, b api.Case) int { return strings.Compare(a.Channel, b.Channel) })
		wantApplied(t, m.what, got, r, next, api.Receipt{Who: me, Taken: true, Err: m.err})
	}
	c.Judge.Cases = manyCases(200)
	for _, kind := range []int{api.TxChallenge, api.TxCheckpoint, api.TxConclude} {
		got, r := Apply(c, wrap(t, 2, lay(kind, final)))
		coins, _ := plainPass(c.Coins, me, who(255), asset(0), api.U{1})
		wantApplied(t, "the 201st case", got, r, after(t, c, me, coins...), api.Receipt{Who: me, Taken: true, Err: api.ErrMany})
	}
}

// paying is a chain on which a channel has ended at 5, and so much is held for it.
func paying(t *testing.T, now int, held uint64, l ...api.Alloc) api.Chain {
	t.Helper()
	c := minted(t, api.Chain{Now: now}, mine(t, 0), 0, 9)
	c.Judge = api.Judge{Holds: []api.Hold{hold(1, 1, held)}, Cases: []api.Case{known(1, 4, exit(0, plain(ch(9), 1)), exit(1, l...))}}
	return c
}

// P21.3: what a channel pays goes to accounts, coin by coin, and to other channels.
func TestApplyTransfer(t *testing.T) {
	me, you := mine(t, 0), who(7)
	l := []api.Alloc{plain(state.Dest(you), 3), plain(ch(2), 2), plain(state.Dest(me), 4), plain(state.Dest(you), 5)}
	less := func(by ...uint64) []api.Alloc {
		out := slices.Clone(l)
		for i, n := range by {
			out[i].Amount[0] -= n
		}
		return out
	}
	fee, left := coin(who(255), 0, 1), coin(me, 0, 8)
	x := func(of byte, which ...int) api.Tx {
		return api.Tx{Kind: api.TxTransfer, Channel: ch(1), Asset: asset(of), Which: which}
	}
	for _, m := range []struct {
		what  string
		now   int
		x     api.Tx
		err   api.Errno
		coins []api.Coin
		holds []api.Hold
		rest  []api.Alloc
	}{
		{"all", 5, x(1), 0, []api.Coin{coin(you, 1, 6), left, coin(me, 1, 4), fee}, []api.Hold{hold(2, 1, 2)}, less(3, 2, 4, 3)},
		{"some", 6, x(1, 0, 2), 0, []api.Coin{coin(you, 1, 3), left, coin(me, 1, 4), fee}, []api.Hold{hold(1, 1, 5)}, less(3, 0, 4)},
		{"a channel", 5, x(1, 1), 0, []api.Coin{left, fee}, []api.Hold{hold(1, 1, 10), hold(2, 1, 2)}, less(0, 2)},
		{"ahead of the end", 4, x(1), api.ErrOpen, []api.Coin{left, fee}, []api.Hold{hold(1, 1, 12)}, l},
		{"of no exit", 5, x(2), api.ErrNone, []api.Coin{left, fee}, []api.Hold{hold(1, 1, 12)}, l},
		{"no place", 5, x(1, 4), api.ErrRange, []api.Coin{left, fee}, []api.Hold{hold(1, 1, 12)}, l},
		{"of what is not held", 5, x(0), 0, []api.Coin{left, fee}, []api.Hold{hold(1, 1, 12)}, l},
	} {
		c := paying(t, m.now, 12, l...)
		got, r := Apply(c, wrap(t, 0, m.x))
		next := after(t, c, me, m.coins...)
		next.Judge = api.Judge{Holds: m.holds, Cases: []api.Case{known(1, 4, exit(0, plain(ch(9), 1)), exit(1, m.rest...))}}
		wantApplied(t, m.what, got, r, next, api.Receipt{Who: me, Taken: true, Err: m.err})
	}
}

// P21.3 and P21.5: where one of several coins finds no place, all are given back, and held as they were.
func TestApplyTransferMany(t *testing.T) {
	me := mine(t, 0)
	l := []api.Alloc{plain(state.Dest(who(7)), 3), plain(ch(2), 2), plain(state.Dest(who(8)), 4)}
	c := paying(t, 5, 12, l...)
	// With the fees' address there is a place for one more.
	c.Coins = append(manyCoins(997, 1), c.Coins...)
	slices.SortFunc(c.Coins, func(a, b api.Coin) int { return strings.Compare(a.Who+a.Asset, b.Who+b.Asset) })
	x := api.Tx{Kind: api.TxTransfer, Channel: ch(1), Asset: asset(1)}
	got, r := Apply(c, wrap(t, 0, x))
	coins, err := plainPass(c.Coins, me, who(255), asset(0), api.U{1})
	if err != api.OK {
		t.Fatal(err)
	}
	wantApplied(t, "two", got, r, after(t, c, me, coins...), api.Receipt{Who: me, Taken: true, Err: api.ErrMany})
	x.Which = []int{0, 1}
	got, r = Apply(c, wrap(t, 0, x))
	if r != (api.Receipt{Who: me, Taken: true}) || len(got.Coins) != 1000 || acct.Get(got.Coins, who(7), asset(1)) != (api.U{3}) {
		t.Errorf("one: %v, %d accounts", r, len(got.Coins))
	}
}

// P21.3: a claim gives what is bound back to its sides; nothing that is held or in accounts changes.
func TestApplyClaim(t *testing.T) {
	me := mine(t, 0)
	left, right := state.Dest(me), state.Dest(who(7))
	l := []api.Alloc{plain(left, 1), plain(right, 2), {Dest: ch(3), Amount: api.U{5}, Kind: api.PayBound, Left: left, Right: right}}
	inner := known(3, 4, exit(1, plain(left, 4), plain(right, 1)))
	x := func(channel byte, k int) api.Tx {
		return api.Tx{Kind: api.TxClaim, Channel: ch(channel), Asset: asset(1), Index: k}
	}
	for _, m := range []struct {
		what string
		now  int
		ends int
		x    api.Tx
		err  api.Errno
	}{
		{"both have ended", 7, 7, x(1, 2), 0},
		{"the inner one has not", 7, 8, x(1, 2), api.ErrOpen},
		{"the ledger has not", 4, 4, x(1, 2), api.ErrOpen},
		{"nothing bound there", 7, 7, x(1, 1), api.ErrOpen},
		{"no place", 7, 7, x(1, 3), api.ErrRange},
		{"no channel", 7, 7, x(9, 0), api.ErrOpen},
	} {
		c := paying(t, m.now, 8, l...)
		inner.Ends = m.ends
		c.Judge.Cases = append(c.Judge.Cases, inner)
		got, r := Apply(c, wrap(t, 0, m.x))
		next := after(t, c, me, coin(me, 0, 8), coin(who(255), 0, 1))
		if m.err == api.OK {
			next.Judge.Cases = []api.Case{known(1, 4, exit(0, plain(ch(9), 1)), exit(1, plain(left, 5), plain(right, 3))), inner}
		}
		wantApplied(t, m.what, got, r, next, api.Receipt{Who: me, Taken: true, Err: m.err})
	}
}

// P21.6: behind a transaction that was taken, with an error too, it is not taken again, whatever comes between.
func TestNeverTwice(t *testing.T) {
	me := mine(t, 0)
	c := rich(t, 1, 9, 9)
	good, bad := wrap(t, 0, send(0, who(7), 1, 1)), wrap(t, 0, send(1, who(7), 1, 99))
	early, _ := Apply(c, bad)
	if !Same(early, c) {
		t.Error("taken ahead of its turn")
	}
	for i, raw := range []string{good, bad} {
		next, r := Apply(c, raw)
		if !r.Taken {
			t.Fatalf("%d: not taken, error %d", i, r.Err)
		}
		c, _ = Tick(next, 1)
		c = minted(t, c, me, 1, 200)
		for _, old := range []string{good, bad}[:i+1] {
			got, r := Apply(c, old)
			wantApplied(t, "once more", got, r, c, api.Receipt{Who: me, Err: api.ErrNonce})
		}
	}
	if Next(c, me) != 2 {
		t.Errorf("the next one is %d", Next(c, me))
	}
}
