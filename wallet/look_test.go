package wallet

import (
	"fmt"
	"testing"

	"truce/api"
	"truce/judge"
	"truce/state"
)

// counted is a chain that has taken so many transactions of a participant.
func counted(t testing.TB, c api.Chain, part int, n uint64) api.Chain {
	t.Helper()
	c.Counts = []api.Count{{Who: whoOf(t, part), N: n}}
	return c
}

// deposit is what lays gold down.
func deposit(f api.Fixed, expect, n uint64) api.Tx {
	return api.Tx{Kind: api.TxDeposit, Channel: state.Id(f), Asset: gold, Expect: api.U{expect}, Amount: api.U{n}}
}

// proves is what lays states down, each with one participant's seal.
func proves(t testing.TB, kind int, f api.Fixed, l ...api.Var) api.Tx {
	t.Helper()
	tx := api.Tx{Kind: kind, Fixed: f}
	for _, v := range l {
		mover := int(v.Turn % uint64(len(f.Parts)))
		tx.Proof = append(tx.Proof, api.Signed{Var: v, Seals: []api.Seal{sealOf(t, f, v, mover)}})
	}
	return tx
}

// doing is a reply of transactions.
func doing(txs []string, letters ...api.Letter) api.Reply {
	return api.Reply{Letters: letters, Txs: txs}
}

// agreed is a wallet of which a channel of two has an outcome that both agreed on: 5 and 6.
func agreed(t testing.TB, w api.Wallet, f api.Fixed) api.Wallet {
	t.Helper()
	return holds(t, holds(t, w, f, with(0, split(t, 5, 6)), 0), f, with(1, split(t, 5, 6)), 1)
}

// P29.2: what a look brings of one channel: it lays down, then says that it is funded.
func TestLook(t *testing.T) {
	f := channel(t, 2, bare)
	w, o := agreed(t, walletOf(t, 0, f), f), agreed(t, walletOf(t, 1, f), f)
	c := fresh()
	wantStep(t, "its own part", w, acLook(), c, w, doing(txs(t, 0, 0, deposit(f, 0, 5))))
	wantStep(t, "its own part, later", w, acLook(), counted(t, c, 0, 7), w, doing(txs(t, 0, 7, deposit(f, 0, 5))))
	wantStep(t, "another one's count", w, acLook(), counted(t, c, 1, 7), w, doing(txs(t, 0, 0, deposit(f, 0, 5))))
	wantStep(t, "not yet its own", o, acLook(), c, o, api.Reply{})
	c = lays(t, c, f, 5)
	wantStep(t, "laid down", w, acLook(), c, w, api.Reply{})
	wantStep(t, "the second part", o, acLook(), c, o, doing(txs(t, 1, 0, deposit(f, 5, 6))))
	c = lays(t, c, f, 6)
	two, three := with(2, split(t, 5, 6)), with(3, split(t, 5, 6))
	said := holds(t, w, f, two, 0)
	wantStep(t, "funded", w, acLook(), c, said, sent(t, f, 0, two, 0))
	wantStep(t, "funded, not its turn", o, acLook(), c, o, api.Reply{})
	wantStep(t, "said already", said, acLook(), c, said, api.Reply{})
	o = holds(t, o, f, two, 0)
	wantStep(t, "funded, its turn", o, acLook(), c, holds(t, o, f, three, 1), sent(t, f, 1, three, 1))
}

// P29.2: without a Who, without a channel, without an agreement a look brings nothing.
func TestLookNothing(t *testing.T) {
	f := channel(t, 2, bare)
	c := counted(t, lays(t, challenged(t, fresh(), f, at(3)), f, 11), 0, 5)
	for what, w := range map[string]api.Wallet{
		"a new one": New(), "no channel": walletOf(t, 0), "nothing kept": walletOf(t, 0, f),
		"one state":          holds(t, walletOf(t, 0, f), f, at(0), 0),
		"newer on the chain": holds(t, agreed(t, walletOf(t, 0, f), f), f, with(2, split(t, 5, 6)), 0),
	} {
		wantStep(t, what, w, acLook(), c, w, api.Reply{})
	}
}

// P29.2: it looks at the chain's moment: an end that has come is paid out, one that has not is waited for.
func TestLookMoment(t *testing.T) {
	f := channel(t, 2, bare)
	w := noted(t, agreed(t, walletOf(t, 0, f), f), enExit(f))
	c := lays(t, fresh(), f, 11)
	c.Now = 20
	wantStep(t, "the challenge", w, acLook(), c, w, doing(txs(t, 0, 0, proves(t, api.TxChallenge, f, with(0, split(t, 5, 6)), with(1, split(t, 5, 6))))))
	c = challenged(t, c, f, with(1, split(t, 5, 6)))
	pay := api.Tx{Kind: api.TxTransfer, Channel: state.Id(f), Asset: gold}
	for now := 20; now < 32; now++ {
		c.Now = now
		want := api.Reply{}
		if now >= 29 {
			want = doing(txs(t, 0, 0, pay))
		}
		wantStep(t, fmt.Sprint("at ", now), w, acLook(), c, w, want)
	}
}

// P29.2: what was said just now is proven on the chain by the same look.
func TestLookBehindItself(t *testing.T) {
	f := channel(t, 2, yes)
	one, two := with(1, split(t, 5, 6)), with(2, split(t, 5, 6))
	w := agreed(t, walletOf(t, 0, f), f)
	c := lays(t, challenged(t, fresh(), f, one), f, 11)
	want := sent(t, f, 0, two, 0)
	want.Txs = txs(t, 0, 0, proves(t, api.TxCheckpoint, f, one, two))
	wantStep(t, "challenged by what was newest", w, acLook(), c, holds(t, w, f, two, 0), want)
}

// P29.2: channels one behind the other, as the book has them; transactions are numbered through.
func TestLookMany(t *testing.T) {
	var l []api.Fixed
	for i := range 6 {
		l = append(l, numbered(t, 2, yes, uint64(9-i)))
	}
	one, two := with(1, split(t, 5, 6)), with(2, split(t, 5, 6))
	w := walletOf(t, 0, l...)
	for _, at := range []int{0, 1, 2, 4, 5} {
		w = agreed(t, w, l[at])
	}
	w = noted(t, w, enExit(l[2]), enExit(l[4]))
	c := counted(t, fresh(), 0, 4)
	c = lays(t, lays(t, c, l[1], 11), l[5], 12)
	c = lays(t, challenged(t, c, l[4], one), l[4], 3)
	c = challenged(t, c, l[5], one)
	c.Now = 5
	want := sent(t, l[1], 0, two, 0)
	want.Letters = append(want.Letters, sent(t, l[5], 0, two, 0).Letters...)
	want.Txs = txs(t, 0, 4, deposit(l[0], 0, 5), proves(t, api.TxChallenge, l[2], with(0, split(t, 5, 6)), one), proves(t, api.TxCheckpoint, l[5], one, two))
	wantStep(t, "six channels", w, acLook(), c, holds(t, holds(t, w, l[1], two, 0), l[5], two, 0), want)
	c.Now = 10
	want.Letters = sent(t, l[1], 0, two, 0).Letters
	want.Letters = append(want.Letters, sent(t, l[5], 0, two, 0).Letters...)
	pay := func(f api.Fixed) api.Tx {
		return api.Tx{Kind: api.TxTransfer, Channel: state.Id(f), Asset: gold}
	}
	want.Txs = txs(t, 0, 4, deposit(l[0], 0, 5), proves(t, api.TxChallenge, l[2], with(0, split(t, 5, 6)), one), pay(l[4]), pay(l[5]))
	wantStep(t, "six channels, of which two have ended", w, acLook(), c, holds(t, holds(t, w, l[1], two, 0), l[5], two, 0), want)
}

// P29.2: of one channel what it lays down goes ahead of what it says to the chain; several assets go one by one.
func TestLookAssets(t *testing.T) {
	f := channel(t, 2, yes)
	l := append(split(t, 5, 6), split(t, 7, 8)...)
	l[1].Asset = wool
	w := holds(t, holds(t, walletOf(t, 0, f), f, with(0, l), 0), f, with(1, l), 1)
	c := challenged(t, counted(t, fresh(), 0, 2), f, with(0, l))
	second := deposit(f, 0, 7)
	second.Asset = wool
	want := txs(t, 0, 2, deposit(f, 0, 5), second, proves(t, api.TxCheckpoint, f, with(0, l), with(1, l)))
	wantStep(t, "two parts, and a risk", w, acLook(), c, w, doing(want))
	if held := judge.Held(lays(t, c, f, 5).Judge, state.Id(f), gold); held != (api.U{5}) {
		t.Errorf("held: %v", held)
	}
	want = txs(t, 0, 2, second, proves(t, api.TxCheckpoint, f, with(0, l), with(1, l)))
	wantStep(t, "one part, and a risk", w, acLook(), lays(t, c, f, 5), w, doing(want))
}

// P29.2: where a transaction can't be written none is told; what was said stays.
func TestLookNonce(t *testing.T) {
	f, g, h := numbered(t, 2, bare, 1), numbered(t, 2, bare, 2), numbered(t, 2, bare, 3)
	two := with(2, split(t, 5, 6))
	w := agreed(t, agreed(t, walletOf(t, 0, f, g), f), g)
	c := lays(t, fresh(), g, 11)
	said := holds(t, w, g, two, 0)
	last := txs(t, 0, 1<<40, deposit(f, 0, 5))
	wantStep(t, "the last number", w, acLook(), counted(t, c, 0, 1<<40), said, doing(last, sent(t, g, 0, two, 0).Letters...))
	more := agreed(t, noted(t, w, enChan(h)), h)
	after := holds(t, more, g, two, 0)
	wantStep(t, "one more", more, acLook(), counted(t, c, 0, 1<<40), after, beside(api.ErrForm, sent(t, g, 0, two, 0).Letters...))
	both := txs(t, 0, 1<<40-1, deposit(f, 0, 5), deposit(h, 0, 5))
	wantStep(t, "the last two numbers", more, acLook(), counted(t, c, 0, 1<<40-1), after, doing(both, sent(t, g, 0, two, 0).Letters...))
}

// P29.2: behind an error in a look what was noted and sent ahead stays; its transactions, those ahead of it too, are not told.
func TestLookTorn(t *testing.T) {
	f, g, h := numbered(t, 2, bare, 1), numbered(t, 3, bare, 2), numbered(t, 2, bare, 3)
	two := with(2, split(t, 5, 6))
	w := agreed(t, agreed(t, walletOf(t, 0, f, g, h), f), h)
	third := with(3, split(t, 5, 6, 7))
	w = holds(t, w, g, with(2, split(t, 5, 6, 7)), 0, 1, 2)
	c := lays(t, lays(t, fresh(), g, 18), h, 11)
	first, second := recordOf(t, enMine(t, g, third, 0)), recordOf(t, enMine(t, h, two, 0))
	one := sent(t, g, 0, third, 0).Letters
	for _, n := range []int{0, 1, len(second) - 1} {
		want := off(noted(t, w, enMine(t, g, third, 0)), second[:n])
		wantStep(t, fmt.Sprint("torn in the second at ", n), armed(w, len(first)+n), acLook(), c, want, beside(api.ErrPower, one...))
	}
	for _, n := range []int{0, 1, len(first) - 1} {
		wantStep(t, fmt.Sprint("torn in the first at ", n), armed(w, n), acLook(), c, off(w, first[:n]), beside(api.ErrPower))
	}
	all := append(one, sent(t, h, 0, two, 0).Letters...)
	enough := armed(w, len(first)+len(second))
	after := noted(t, enough, enMine(t, g, third, 0), enMine(t, h, two, 0))
	wantStep(t, "just enough", enough, acLook(), c, after, doing(txs(t, 0, 0, deposit(f, 0, 5)), all...))
	wantStep(t, "nothing to note", armed(walletOf(t, 0, f), 0), acLook(), c, armed(walletOf(t, 0, f), 0), api.Reply{})
}
