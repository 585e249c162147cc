package world

import (
	"fmt"
	"math"
	"slices"
	"testing"

	"truce/api"
	"truce/book"
	"truce/call"
	"truce/judge"
	"truce/log"
	"truce/mail"
	"truce/num"
	"truce/state"
)

// odds are places and numbers that nothing has.
var odds = []int{math.MinInt, -2, -1, 99, math.MaxInt}

// P30.1: a move of a wallet that is none is ErrNone, whatever else it bears; one that is of no wallet looks at no Who.
func TestNobody(t *testing.T) {
	f := channel(t, bare, 0, 1)
	w := busy(t)
	for _, who := range append(slices.Clone(odds), 2) {
		for _, m := range []api.Move{mint(who, 1, gold), mint(who, 1, "odd"), open(who, f), act(who, api.Act{}), look(who), hear(who, "odd"), hear(who, w.Posts[0].Raw), arm(who, 3), crash(who, 3)} {
			refuses(t, fmt.Sprint("wallet ", who), w, m, api.ErrNone)
		}
		for what, row := range map[string]struct {
			m    api.Move
			want api.Errno
		}{
			"a letter": {post(0), api.OK}, "a transaction": {take(2), api.ErrNonce}, "no transaction": {tx("odd"), api.ErrShort},
			"time": {tick(3), api.OK}, "no kind": {api.Move{}, api.ErrForm}, "a kind above": {api.Move{Kind: 10}, api.ErrForm},
		} {
			as := row.m
			as.Who = who
			want, _ := plainStep(w, row.m)
			wantStep(t, fmt.Sprint(what, " of wallet ", who), w, as, want, row.want)
		}
	}
	refuses(t, "a second wallet of one", New(1), mint(1, 1, gold), api.ErrNone)
	refuses(t, "a third wallet of three", New(3), act(3, api.Act{}), api.ErrNone)
	refuses(t, "of no wallets", api.World{Chain: api.Chain{Now: 1}}, arm(0, 1), api.ErrNone)
}

// P30.1: any other kind is ErrForm, and nothing comes of it.
func TestOtherKinds(t *testing.T) {
	w := busy(t)
	for _, kind := range []int{math.MinInt, -9, -1, 0, 10, 11, math.MaxInt} {
		refuses(t, fmt.Sprint("kind ", kind), w, api.Move{Kind: kind, Raw: w.Txs[1], Asset: gold, Amount: num.Of(1), N: 1}, api.ErrForm)
	}
}

// P30.1, P30.3: MvMint makes money for the wallet's Who.
func TestMint(t *testing.T) {
	w := New(3)
	for who := range w.Wallets {
		for _, n := range []uint64{1, 20} {
			want := w
			want.Chain = api.Chain{Now: 1, Coins: []api.Coin{{Who: whoOf(t, who), Asset: gold, Amount: num.Of(n)}}}
			wantStep(t, fmt.Sprint(n, " for ", who), w, mint(who, n, gold), want, api.OK)
		}
		wantStep(t, "nothing", w, mint(who, 0, gold), w, api.OK)
		for _, asset := range []string{"", rep(1, 19), rep(1, 21), rep(1, 32)} {
			refuses(t, fmt.Sprintf("%d bytes", len(asset)), w, mint(who, 1, asset), api.ErrForm)
		}
	}
	all := api.U{math.MaxUint64, math.MaxUint64, math.MaxUint64, math.MaxUint64}
	full := behind(t, w, api.Move{Kind: api.MvMint, Who: 1, Asset: gold, Amount: all})
	refuses(t, "more than can be", full, mint(2, 1, gold), api.ErrOver)
	refuses(t, "more than one can have", full, mint(1, 1, gold), api.ErrOver)
	got := behind(t, full, mint(2, 1, fee))
	if len(got.Chain.Coins) != 2 || got.Chain.Coins[0].Asset != fee && got.Chain.Coins[1].Asset != fee {
		t.Errorf("of another asset: %v", got.Chain.Coins)
	}
}

// noted is a wallet behind entries that last.
func noted(t testing.TB, x api.Wallet, l ...api.Entry) api.Wallet {
	t.Helper()
	for i, e := range l {
		b, err := book.Apply(x.Book, e)
		if err != api.OK {
			t.Fatalf("entry %d, kind %d: error %d", i, e.Kind, err)
		}
		x.Book = b
		x.Disk.Data += log.Frame(book.Write(e))
	}
	return x
}

// put is a world with another wallet at a place.
func put(w api.World, at int, x api.Wallet) api.World {
	w.Wallets = slices.Clone(w.Wallets)
	w.Wallets[at] = x
	return w
}

func mine(t testing.TB, f api.Fixed, v api.Var, place int) api.Entry {
	t.Helper()
	return api.Entry{Kind: api.EnMine, Channel: state.Id(f), Var: v, Seal: sealOf(t, f, v, place)}
}

func seen(t testing.TB, f api.Fixed, v api.Var, place int) api.Entry {
	t.Helper()
	return api.Entry{Kind: api.EnSeen, Channel: state.Id(f), Var: v, Who: slices.Index(f.Parts, whoOf(t, place)), Seal: sealOf(t, f, v, place)}
}

// P30.1: MvAct is the wallet's step: its letters go behind all others, from its place, one to each other participant.
func TestAct(t *testing.T) {
	f := channel(t, bare, 2, 0, outsider, 1)
	v := with(0, split(f, 4, 5, 6, 7))
	w := New(3)
	for who, x := range w.Wallets {
		want := put(w, who, noted(t, x, api.Entry{Kind: api.EnChan, Fixed: f}))
		w = wantStep(t, fmt.Sprint(who, " opens"), w, open(who, f), want, api.OK)
		refuses(t, fmt.Sprint(who, " opens twice"), w, open(who, f), api.ErrThere)
	}
	want := put(w, 2, noted(t, w.Wallets[2], mine(t, f, v, 2)))
	raw := mailOf(t, f, v, 2)
	for _, to := range []int{0, outsider, 1} {
		want.Posts = append(want.Posts, api.Post{From: 2, To: whoOf(t, to), Raw: raw})
	}
	w = wantStep(t, "a turn", w, turns(2, f, v), want, api.OK)
	refuses(t, "once more", w, turns(2, f, v), api.ErrTurn)
	refuses(t, "another one's turn", w, turns(0, f, v), api.ErrTurn)
	refuses(t, "no kind", w, act(1, api.Act{}), api.ErrForm)

	want = put(w, 0, noted(t, w.Wallets[0], seen(t, f, v, 2)))
	w = wantStep(t, "the letter", w, post(0), want, api.OK)
	one := with(1, v.Exits)
	want = put(w, 0, noted(t, w.Wallets[0], mine(t, f, one, 0)))
	for _, to := range []int{2, outsider, 1} {
		want.Posts = append(slices.Clone(want.Posts), api.Post{From: 0, To: whoOf(t, to), Raw: mailOf(t, f, one, 0)})
	}
	w = wantStep(t, "a second turn", w, turns(0, f, one), want, api.OK)
	want = put(w, 1, noted(t, w.Wallets[1], api.Entry{Kind: api.EnGoal, Channel: state.Id(f), Goal: api.GoalExit}))
	wantStep(t, "it wants to be out", w, exit(1, f), want, api.OK)
}

// P30.1: what an AcLook sends goes behind Txs, with all that was sent before; nothing of it is taken by itself.
func TestLook(t *testing.T) {
	f := channel(t, bare, 0, 1)
	v := with(1, split(f, 4, 5))
	w := behind(t, New(2), open(0, f), open(1, f), turns(0, f, with(0, v.Exits)), post(0), turns(1, f, v), post(1))
	deposit := api.Tx{Kind: api.TxDeposit, Channel: state.Id(f), Asset: gold, Amount: num.Of(4)}
	want := w
	want.Txs = []string{txOf(t, 0, 0, deposit)}
	w = wantStep(t, "it lays down", w, look(0), want, api.OK)
	want.Txs = []string{w.Txs[0], w.Txs[0]}
	w = wantStep(t, "once more, it being not taken", w, look(0), want, api.OK)
	wantStep(t, "the other one waits", w, look(1), w, api.OK)

	w = behind(t, w, mint(0, 9, fee), mint(0, 9, gold), mint(1, 9, fee), take(1))
	deposit.Expect, deposit.Amount = num.Of(4), num.Of(5)
	want = w
	want.Txs = []string{w.Txs[0], w.Txs[1], txOf(t, 1, 0, deposit)}
	w = wantStep(t, "then the other one", w, look(1), want, api.OK)
	// It has no gold to lay down: its transaction is taken, and changes its count and the fee alone.
	want = w
	want.Chain.Coins = []api.Coin{{Who: whoOf(t, 1), Asset: fee, Amount: num.Of(8)}, {Who: whoOf(t, 0), Asset: fee, Amount: num.Of(8)}, {Who: whoOf(t, 0), Asset: gold, Amount: num.Of(5)}, {Who: rep(255, 20), Asset: fee, Amount: num.Of(2)}}
	want.Chain.Counts = []api.Count{{Who: whoOf(t, 1), N: 1}, {Who: whoOf(t, 0), N: 1}}
	wantStep(t, "without gold", w, take(2), want, api.ErrFunds)
}

// funded is a world of two wallets and two channels that both have been funded, and wait for AcLook to say so.
func funded(t testing.TB) (api.World, api.Fixed, api.Fixed) {
	t.Helper()
	f, g := channel(t, bare, 0, 1), channel(t, yes, 0, 1)
	w := behind(t, New(2), mint(0, 9, fee), mint(0, 99, gold), mint(1, 9, fee), mint(1, 99, gold))
	for _, of := range []api.Fixed{f, g} {
		v := with(0, split(of, 4, 5))
		n := len(w.Posts)
		w = behind(t, w, open(0, of), open(1, of), turns(0, of, v), post(n), turns(1, of, v), post(n+1))
	}
	w = behind(t, w, look(0), take(0), take(1), look(1), take(2), take(3))
	return w, f, g
}

// P30.1: what was sent ahead of an error stays: the power fails between two letters of one look.
func TestAheadOfError(t *testing.T) {
	w, f, g := funded(t)
	two := with(2, split(f, 4, 5))
	first := log.Frame(book.Write(mine(t, f, two, 0)))
	second := log.Frame(book.Write(mine(t, g, two, 0)))
	for _, left := range []int{0, 1, len(second) - 1} {
		ready := behind(t, w, arm(0, len(first)+left))
		x := noted(t, ready.Wallets[0], mine(t, f, two, 0))
		x.Disk.Fuse, x.Disk.Off, x.Disk.Tail = 0, true, second[:left]
		want := put(ready, 0, x)
		want.Posts = append(slices.Clone(w.Posts), api.Post{From: 0, To: whoOf(t, 1), Raw: mailOf(t, f, two, 0)})
		torn := wantStep(t, fmt.Sprint("torn at ", left), ready, look(0), want, api.ErrPower)
		refuses(t, "without power", torn, look(0), api.ErrPower)
		back := behind(t, torn, crash(0, left))
		x = noted(t, w.Wallets[0], mine(t, f, two, 0), mine(t, g, two, 0))
		want = put(torn, 0, x)
		want.Posts = append(slices.Clone(torn.Posts), api.Post{From: 0, To: whoOf(t, 1), Raw: mailOf(t, g, two, 0)})
		wantStep(t, "with power again", back, look(0), want, api.OK)
	}
}

// P30.1: MvPost is of the letter N, from 0 on, and of who has its address; it stays, and may come once more, or late.
func TestPost(t *testing.T) {
	f := channel(t, bare, 0, outsider, 1)
	v := with(0, split(f, 1, 2, 3))
	w := behind(t, New(2), open(0, f), turns(0, f, v))
	refuses(t, "a channel that it does not know", w, post(1), api.ErrNone)
	w = behind(t, w, open(1, f))
	refuses(t, "to who is no wallet", w, post(0), api.ErrNone)
	for _, n := range append(slices.Clone(odds), 2, 3) {
		refuses(t, fmt.Sprint("letter ", n), w, post(n), api.ErrNone)
	}
	want := put(w, 1, noted(t, w.Wallets[1], seen(t, f, v, 0)))
	w = wantStep(t, "it comes", w, post(1), want, api.OK)
	wantStep(t, "it comes once more", w, post(1), w, api.OK)
	torn := behind(t, w, arm(1, 0))
	wantStep(t, "it brings nothing, so that no power is missed", torn, post(1), torn, api.OK)

	late := behind(t, New(2), open(0, f), open(1, f), turns(0, f, v), arm(1, 2))
	off := put(late, 1, late.Wallets[1])
	off.Wallets[1].Disk = api.Disk{Data: late.Wallets[1].Disk.Data, Tail: log.Frame(book.Write(seen(t, f, v, 0)))[:2], Off: true}
	late = wantStep(t, "without power", late, post(1), off, api.ErrPower)
	refuses(t, "and again", late, post(1), api.ErrPower)
	late = behind(t, late, crash(1, 1))
	wantStep(t, "late", late, post(1), put(late, 1, noted(t, late.Wallets[1], seen(t, f, v, 0))), api.OK)
}

// P30.1: a letter that calls for an answer: that goes behind all others, from who heard it.
func TestAnswer(t *testing.T) {
	f := channel(t, bare, 0, 1)
	w := behind(t, New(2), open(0, f), open(1, f), turns(0, f, with(0, nil)), post(0), turns(1, f, with(1, nil)), post(1),
		look(0), post(2), look(1), post(3), turns(0, f, with(4, nil)))
	four := with(4, nil)
	want := put(w, 1, noted(t, w.Wallets[1], seen(t, f, four, 0), mine(t, f, four, 1)))
	want.Posts = append(slices.Clone(w.Posts), api.Post{From: 1, To: whoOf(t, 0), Raw: mailOf(t, f, four, 0, 1)})
	wantStep(t, "an answer", w, post(4), want, api.OK)
	wantStep(t, "an answer to what nobody posted", w, hear(1, w.Posts[4].Raw), want, api.OK)
}

// P30.1: of letters to several wallets of one address the first one hears it.
func TestFirstOfAddress(t *testing.T) {
	f := channel(t, bare, 0, 1)
	w := behind(t, New(2), open(0, f), open(1, f), turns(0, f, with(0, nil)))
	w.Wallets = append(w.Wallets, w.Wallets[1])
	got, err := Step(w, post(0))
	want := put(w, 1, noted(t, w.Wallets[1], seen(t, f, with(0, nil), 0)))
	if err != api.OK || spelled(got) != spelled(want) {
		t.Errorf("error %d, %s", err, told(got))
	}
}

// P30.1: MvRaw is heard by the wallet Who, whoever it was for.
func TestRaw(t *testing.T) {
	f := channel(t, bare, 0, 1, outsider)
	v := with(0, split(f, 1, 2, 3))
	w := behind(t, New(3), open(0, f), open(1, f))
	raw := mailOf(t, f, v, 0)
	wantStep(t, "the second one's", w, hear(1, raw), put(w, 1, noted(t, w.Wallets[1], seen(t, f, v, 0))), api.OK)
	refuses(t, "one's own that it has not signed", w, hear(0, mailOf(t, f, v, 1)), api.ErrProof)
	refuses(t, "who has not opened it", w, hear(2, raw), api.ErrNone)
	for _, odd := range []string{"", "odd", raw[1:], raw + "\x00"} {
		_, err := mail.Read(odd)
		if err == api.OK {
			t.Fatal("a mail")
		}
		refuses(t, fmt.Sprintf("%d bytes", len(odd)), w, hear(1, odd), err)
	}
	refuses(t, "a turn that is not to come", w, hear(1, mailOf(t, f, with(1, v.Exits), 1)), api.ErrTurn)
}

// P30.1: MvTake and MvTx are chain.Apply: the receipt's Err; a transaction stays where it is.
func TestTake(t *testing.T) {
	f := channel(t, bare, 0, 1)
	v := with(0, split(f, 4, 5))
	w := behind(t, New(2), mint(0, 9, gold), mint(0, 9, fee), open(0, f), open(1, f), turns(0, f, v), post(0), turns(1, f, v), post(1), look(0))
	for _, n := range append(slices.Clone(odds), 1, 2) {
		refuses(t, fmt.Sprint("transaction ", n), w, take(n), api.ErrNone)
	}
	want := w
	want.Chain = api.Chain{Now: 1, Counts: []api.Count{{Who: whoOf(t, 0), N: 1}}}
	want.Chain.Coins = []api.Coin{{Who: whoOf(t, 0), Asset: fee, Amount: num.Of(8)}, {Who: whoOf(t, 0), Asset: gold, Amount: num.Of(5)}, {Who: rep(255, 20), Asset: fee, Amount: num.Of(1)}}
	want.Chain.Judge.Holds = []api.Hold{{Channel: state.Id(f), Asset: gold, Amount: num.Of(4)}}
	for what, m := range map[string]api.Move{"MvTake": take(0), "MvTx": tx(w.Txs[0])} {
		taken := wantStep(t, what, w, m, want, api.OK)
		refuses(t, what+" once more", taken, m, api.ErrNonce)
	}
	for _, raw := range []string{"", "odd", w.Txs[0][1:], w.Txs[0] + "a", rep(0, 65), w.Posts[0].Raw} {
		_, _, err := call.Open(raw)
		if err == api.OK {
			t.Fatal("a transaction")
		}
		refuses(t, fmt.Sprintf("%d bytes", len(raw)), w, tx(raw), err)
	}
	refuses(t, "of who has no fee", w, tx(txOf(t, 1, 0, api.Tx{Kind: api.TxSend, Asset: gold, To: whoOf(t, 0)})), api.ErrFunds)
	refuses(t, "of who is no wallet", w, tx(txOf(t, outsider, 0, api.Tx{Kind: api.TxSend, Asset: gold, To: whoOf(t, 0)})), api.ErrFunds)

	send := txOf(t, 0, 0, api.Tx{Kind: api.TxSend, Asset: gold, To: whoOf(t, outsider), Amount: num.Of(10)})
	want = w
	want.Chain = api.Chain{Now: 1, Counts: []api.Count{{Who: whoOf(t, 0), N: 1}}}
	want.Chain.Coins = []api.Coin{{Who: whoOf(t, 0), Asset: fee, Amount: num.Of(8)}, {Who: whoOf(t, 0), Asset: gold, Amount: num.Of(9)}, {Who: rep(255, 20), Asset: fee, Amount: num.Of(1)}}
	wantStep(t, "taken, with an error: the fee stays paid", w, tx(send), want, api.ErrFunds)
}

// P30.1: MvTick is chain.Tick.
func TestTick(t *testing.T) {
	w := busy(t)
	for _, n := range []int{0, 1, 9, api.MaxNow - 1} {
		want := w
		want.Chain.Now += n
		wantStep(t, fmt.Sprint(n, " moments"), w, tick(n), want, api.OK)
	}
	for _, n := range []int{math.MinInt, -1, api.MaxNow, math.MaxInt} {
		refuses(t, fmt.Sprint(n, " moments"), w, tick(n), api.ErrTime)
	}
	last := behind(t, w, tick(api.MaxNow-1))
	refuses(t, "behind the last one", last, tick(1), api.ErrTime)
	wantStep(t, "at the last one", last, tick(0), last, api.OK)
}

// P30.1: MvArm is disk.Arm of the wallet's device alone.
func TestArm(t *testing.T) {
	f := channel(t, bare, 0, 1)
	w := New(3)
	for n, fuse := range map[int]int{math.MinInt: -1, -1: -1, 0: 0, 7: 7, api.MaxDisk: api.MaxDisk, api.MaxDisk + 1: api.MaxDisk, math.MaxInt: api.MaxDisk} {
		for who := range w.Wallets {
			want := put(w, who, w.Wallets[who])
			want.Wallets[who].Disk.Fuse = fuse
			armed := wantStep(t, fmt.Sprint(n, " bytes of ", who), w, arm(who, n), want, api.OK)
			want.Wallets[who].Disk.Fuse = 4
			wantStep(t, "then 4", armed, arm(who, 4), want, api.OK)
		}
	}
	off, err := Step(behind(t, w, arm(1, 0)), open(1, f))
	if err != api.ErrPower || !off.Wallets[1].Disk.Off {
		t.Fatalf("error %d, %s", err, told(off))
	}
	for _, n := range []int{-1, 0, 9} {
		wantStep(t, "without power it does nothing", off, arm(1, n), off, api.OK)
	}
}

// P30.1, P30.4: MvCrash is wallet.Boot, N bytes being kept, of one wallet alone.
func TestCrash(t *testing.T) {
	f := channel(t, bare, 0, 1)
	opened := noted(t, New(2).Wallets[0], api.Entry{Kind: api.EnChan, Fixed: f})
	record := opened.Disk.Data[len(New(2).Wallets[0].Disk.Data):]
	w := New(2)
	for _, fuse := range []int{0, 1, len(record) - 1} {
		torn, err := Step(behind(t, w, arm(0, fuse)), open(0, f))
		if x := torn.Wallets[0]; err != api.ErrPower || x.Disk.Tail != record[:fuse] || len(x.Book.Chans) != 0 {
			t.Errorf("fuse %d: error %d, %s", fuse, err, told(torn))
		}
		for _, keep := range []int{math.MinInt, -1, 0, 1, fuse, math.MaxInt} {
			wantStep(t, fmt.Sprintf("%d of %d kept", keep, fuse), torn, crash(0, keep), w, api.OK)
		}
		refuses(t, "the other one is not hurt, that one stays off", behind(t, torn, crash(1, 9)), open(0, f), api.ErrPower)
	}
	whole := behind(t, w, arm(0, len(record)), open(0, f))
	wantStep(t, "just enough", whole, crash(0, 0), put(w, 0, opened), api.OK)
	for _, keep := range []int{-1, 0, 9} {
		wantStep(t, "with power it changes nothing", busy(t), crash(1, keep), busy(t), api.OK)
	}
	wantStep(t, "a fuse is gone then", behind(t, w, arm(1, 5)), crash(1, 0), w, api.OK)
}

// P30.1: DOC.md's examples 3 to 8, as moves in a channel as chapter 31 makes it of the seed 3.
func TestWholeExamples(t *testing.T) {
	f := api.Fixed{Parts: []string{whoOf(t, 0), whoOf(t, 1)}, Nonce: 59, Time: 16}
	id := state.Id(f)
	kept := func(w api.World, who int, want string) {
		t.Helper()
		if c, _ := book.Find(w.Wallets[who].Book, id); toldChan(c) != want {
			t.Errorf("%d: %s, want %s", who, toldChan(c), want)
		}
	}
	held := func(w api.World, want uint64) {
		t.Helper()
		if got := judge.Held(w.Chain.Judge, id, gold); got != num.Of(want) {
			t.Errorf("held %v, want %d", got, want)
		}
	}
	fails := func(w api.World, m api.Move, want api.Errno) api.World {
		t.Helper()
		next, err := Step(w, m)
		if err != want {
			t.Errorf("kind %d: error %d, want %d", m.Kind, err, want)
		}
		return next
	}
	v := with(0, split(f, 4, 5))
	w := behind(t, New(2), mint(0, 9, gold), mint(0, 9, fee), open(0, f), open(1, f), turns(0, f, v), post(0))
	kept(w, 1, "mine 0 kept 0 best none")
	w = behind(t, w, turns(1, f, v), post(1))
	kept(w, 0, "mine 1 kept 0 1 best 1")
	w = behind(t, w, look(0), take(0))
	held(w, 4)
	wantCoins(t, w, 0, 5, 8)

	v = with(0, split(f, 1, 1))
	w = behind(t, New(2), open(0, f), open(1, f), turns(0, f, v))
	w = fails(fails(w, turns(0, f, v), 11), turns(1, f, v), 11)
	w = behind(t, w, post(0), post(0))
	v.Data = "e"
	fails(w, turns(1, f, v), 12)

	w = behind(t, New(2), open(0, f), arm(0, 9))
	w = fails(fails(w, turns(0, f, with(0, split(f, 1, 1))), 26), look(0), 26)
	w = behind(t, w, crash(0, 4), turns(0, f, with(0, split(f, 2, 2))))
	fails(w, post(0), 9)

	v = with(0, split(f, 0, 0))
	w = behind(t, New(2), open(0, f), open(1, f), mint(0, 5, fee), turns(0, f, v), post(0), turns(1, f, v), post(1), look(0))
	kept(w, 0, "mine 3 kept 0 1 2 best 2")
	w = behind(t, w, exit(0, f), look(0), take(0), tick(30))
	held(w, 0)

	w = New(9)
	wantCoins(t, w, 2, 0, 0)
	for _, m := range []api.Move{mint(5, 1, gold), mint(3, 1, gold), post(0), take(0)} {
		fails(w, m, 9)
	}

	w = behind(t, New(1), tick(5), arm(0, 3))
	w = behind(t, fails(fails(w, open(0, f), 26), open(0, f), 26), crash(0, 0), open(0, f))
	fails(w, open(0, f), 10)
}

// wantCoins fails the test unless a wallet has so much gold, and so much to pay fees by.
func wantCoins(t testing.TB, w api.World, who int, golds, fees uint64) {
	t.Helper()
	has := map[string]api.U{}
	for _, c := range w.Chain.Coins {
		if c.Who == w.Wallets[who].Book.Who {
			has[c.Asset] = c.Amount
		}
	}
	if has[gold] != num.Of(golds) || has[fee] != num.Of(fees) {
		t.Errorf("%d has %v and %v, want %d and %d", who, has[gold], has[fee], golds, fees)
	}
}

// P30.6: whoever else means ill, the judge knows no state that is further ahead of what a wallet has signed than the others' turns reach; that far it may be.
func TestNotWithoutItsSeal(t *testing.T) {
	for n := 2; n <= 4; n++ {
		places := []int{0}
		for i := range n - 1 {
			places = append(places, outsider+i)
		}
		f := channel(t, yes, places...)
		state := func(k int) api.Signed { return signed(t, f, with(uint64(k), nil), places[k%n]) }
		w := behind(t, New(2), mint(1, 99, fee), open(0, f), turns(0, f, with(0, nil)))
		for k := 1; k < n; k++ {
			w = behind(t, w, hear(0, mailOf(t, f, with(uint64(k), nil), places[k])))
		}
		w = behind(t, w, look(0))
		for k := n + 1; k < 2*n; k++ {
			w = behind(t, w, hear(0, mailOf(t, f, with(uint64(k), nil), places[k%n])))
		}
		w = behind(t, w, turns(0, f, with(0, nil)))
		mine := w.Wallets[0].Book.Chans[0].Mine
		if mine != uint64(2*n+1) {
			t.Fatalf("%d participants: Mine is %d", n, mine)
		}
		var row []api.Signed
		for k := 2 * n; k < 3*n; k++ {
			row = append(row, state(k))
		}
		lay := func(kind int, l ...api.Signed) (api.World, api.Errno) {
			return Step(w, tx(txOf(t, 1, 0, api.Tx{Kind: kind, Fixed: f, Proof: l})))
		}
		for _, kind := range []int{api.TxChallenge, api.TxCheckpoint} {
			got, err := lay(kind, row...)
			c := got.Chain.Judge.Cases
			if err != api.OK || len(c) != 1 || c[0].Turn != mine+uint64(n)-2 {
				t.Errorf("%d participants, kind %d: error %d, %s", n, kind, err, told(got))
			}
			wantWhole(t, "at the bound", got)
		}
		others := signed(t, f, with(uint64(3*n), nil), places[1:]...)
		over := append(slices.Clone(row[1:]), others)
		forged := others
		forged.Seals = append(slices.Clone(others.Seals), row[0].Seals[0])
		last := signed(t, f, final(with(uint64(3*n), nil)), places[1:]...)
		for what, l := range map[string][]api.Signed{
			"a turn more": over, "that one alone": {others}, "without the wallet's own": row[1:], "a seal of another state": {forged},
			"a final one": {last}, "that one behind the others": append(slices.Clone(row[1:]), last),
		} {
			for _, kind := range []int{api.TxChallenge, api.TxCheckpoint, api.TxConclude} {
				got, err := lay(kind, l...)
				if err == api.OK || len(got.Chain.Judge.Cases) > 0 || len(got.Chain.Counts) != 1 {
					t.Errorf("%d participants, kind %d, %s: error %d, %s", n, kind, what, err, told(got))
				}
			}
		}
	}
}

// P30.1, P30.3: letters that come late and twice, and power that fails between any two acts, change nothing of what each has in the end.
func TestClosed(t *testing.T) {
	w, f, _ := funded(t)
	spoil := func() {
		for who := range w.Wallets {
			next, err := Step(behind(t, w, arm(who, 7)), look(who))
			if err != api.OK && err != api.ErrPower {
				t.Fatalf("error %d", err)
			}
			w = behind(t, next, crash(who, 5))
		}
	}
	spoil()
	w = behind(t, w, look(0))
	n := len(w.Posts)
	w = behind(t, w, post(n-2), post(n-1), post(n-2), look(1))
	spoil()
	n = len(w.Posts)
	w = behind(t, w, post(n-2), post(n-1), turns(0, f, with(0, split(f, 2, 7))))
	spoil()
	n = len(w.Posts)
	w = behind(t, w, post(n-1), post(n-1), post(n))
	spoil()
	n = len(w.Posts)
	w = behind(t, w, turns(1, f, final(with(0, split(f, 2, 7)))), post(n))
	spoil()
	w = behind(t, w, post(n+1), exit(0, f), look(0), take(len(w.Txs)))
	w = behind(t, w, look(1), take(len(w.Txs)))
	for who, golds := range []uint64{99 - 4 - 4 + 2, 99 - 5 - 5 + 7} {
		wantCoins(t, w, who, golds, 9-3)
	}
	if got := judge.Held(w.Chain.Judge, state.Id(f), gold); got != (api.U{}) {
		t.Errorf("held %v", got)
	}
	wantWhole(t, "closed", w)
}
