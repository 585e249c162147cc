package world

import (
	"fmt"
	"slices"
	"strings"
	"sync"
	"testing"

	"truce/api"
	"truce/book"
	"truce/call"
	"truce/chain"
	"truce/codes"
	"truce/disk"
	"truce/judge"
	"truce/key"
	"truce/mail"
	"truce/seal"
	"truce/state"
	"truce/wallet"
)

// mix is a fixed row of numbers that look mixed: the tests must go alike each time.
func mix(seed *uint64) uint64 {
	*seed += 0x9e3779b97f4a7c15
	z := *seed
	z = (z ^ z>>30) * 0xbf58476d1ce4e5b9
	z = (z ^ z>>27) * 0x94d049bb133111eb
	return z ^ z>>31
}

func below(seed *uint64, n int) int { return int(mix(seed) % uint64(n)) }

func rep(b byte, n int) string { return strings.Repeat(string([]byte{b}), n) }

// outsider is a participant's place beyond all wallets: nobody but a test has that key.
const outsider = 7

func whoOf(t testing.TB, part int) string {
	t.Helper()
	who, err := key.Who(key.Small(uint64(part)))
	if err != api.OK {
		t.Fatalf("no key: %d", part)
	}
	return who
}

// Codes of rules; bare is none.
const (
	bare = ""
	yes  = "PUSH1 01 PUSH0 MSTORE PUSH1 20 PUSH0 RETURN"
)

// channel is a fit one, with a rule that says this, of the wallets of these places.
func channel(t testing.TB, says string, places ...int) api.Fixed {
	t.Helper()
	app, at, err := codes.Assemble(says)
	if err != api.OK {
		t.Fatalf("no code: %q at %d", says, at)
	}
	f := api.Fixed{Time: 9, Nonce: 3, App: app}
	for _, place := range places {
		f.Parts = append(f.Parts, whoOf(t, place))
	}
	return f
}

// Assets of tests; fees are paid in that of the fee.
var gold, fee = rep(116, 20), rep(0, 20)

// split is an outcome of gold alone: so much for each participant of a channel.
func split(f api.Fixed, amounts ...uint64) []api.Exit {
	e := api.Exit{Asset: gold}
	for part, n := range amounts {
		e.Allocs = append(e.Allocs, api.Alloc{Dest: state.Dest(f.Parts[part]), Amount: api.U{n}})
	}
	return []api.Exit{e}
}

// with is a state of a turn, with an outcome.
func with(turn uint64, l []api.Exit) api.Var { return api.Var{Turn: turn, Data: "d", Exits: l} }

func final(v api.Var) api.Var {
	v.Final = true
	return v
}

// seals has each seal that a test has made, since they are dear to make.
var seals sync.Map

// sealOf is a seal of a state by the key of a place.
func sealOf(t testing.TB, f api.Fixed, v api.Var, place int) api.Seal {
	t.Helper()
	digest := state.Digest(f, v)
	name := fmt.Sprint(digest, place)
	if s, ok := seals.Load(name); ok {
		return s.(api.Seal)
	}
	s, err := seal.Make(digest, key.Small(uint64(place)))
	if err != api.OK {
		t.Fatalf("no seal: error %d", err)
	}
	seals.Store(name, s)
	return s
}

// signed is a state with seals by the keys of these places.
func signed(t testing.TB, f api.Fixed, v api.Var, places ...int) api.Signed {
	t.Helper()
	s := api.Signed{Var: v}
	for _, place := range places {
		s.Seals = append(s.Seals, sealOf(t, f, v, place))
	}
	return s
}

// mailOf is such a state on its way.
func mailOf(t testing.TB, f api.Fixed, v api.Var, places ...int) string {
	t.Helper()
	raw := mail.Write(api.Mail{Fixed: f, Signed: signed(t, f, v, places...)})
	if raw == "" {
		t.Fatal("no fit mail")
	}
	return raw
}

// txOf is a transaction by the key of a place.
func txOf(t testing.TB, place int, nonce uint64, tx api.Tx) string {
	t.Helper()
	tx.Nonce = nonce
	raw, err := call.Wrap(tx, key.Small(uint64(place)))
	if err != api.OK {
		t.Fatalf("not fit: %v", tx)
	}
	return raw
}

// Moves of each kind.

func mint(who int, n uint64, asset string) api.Move {
	return api.Move{Kind: api.MvMint, Who: who, Amount: api.U{n}, Asset: asset}
}

func act(who int, a api.Act) api.Move { return api.Move{Kind: api.MvAct, Who: who, Act: a} }

func open(who int, f api.Fixed) api.Move { return act(who, api.Act{Kind: api.AcOpen, Fixed: f}) }

// turns is the act of a turn to this state.
func turns(who int, f api.Fixed, v api.Var) api.Move {
	return act(who, api.Act{Kind: api.AcMove, Channel: state.Id(f), Data: v.Data, Exits: v.Exits, Final: v.Final})
}

func exit(who int, f api.Fixed) api.Move {
	return act(who, api.Act{Kind: api.AcExit, Channel: state.Id(f)})
}

func look(who int) api.Move { return act(who, api.Act{Kind: api.AcLook}) }

func post(n int) api.Move { return api.Move{Kind: api.MvPost, N: n} }

func hear(who int, raw string) api.Move { return api.Move{Kind: api.MvRaw, Who: who, Raw: raw} }

func take(n int) api.Move { return api.Move{Kind: api.MvTake, N: n} }

func tx(raw string) api.Move { return api.Move{Kind: api.MvTx, Raw: raw} }

func tick(n int) api.Move { return api.Move{Kind: api.MvTick, N: n} }

func arm(who, n int) api.Move { return api.Move{Kind: api.MvArm, Who: who, N: n} }

func crash(who, n int) api.Move { return api.Move{Kind: api.MvCrash, Who: who, N: n} }

// behind is a world behind moves of which none may have an error.
func behind(t testing.TB, w api.World, l ...api.Move) api.World {
	t.Helper()
	for i, m := range l {
		next, err := Step(w, m)
		if err != api.OK {
			t.Fatalf("move %d, kind %d of %d, %d: error %d", i, m.Kind, m.Who, m.N, err)
		}
		w = next
	}
	return w
}

// spelled spells out what there is: unlike ones are unlike. An empty list is none.
func spelled(a any) string { return fmt.Sprintf("%+v", a) }

// told is a world in words of a bearable length.
func told(w api.World) string {
	out := fmt.Sprintf("at %d, %d coins, %d holds, %d cases, counts", w.Chain.Now, len(w.Chain.Coins), len(w.Chain.Judge.Holds), len(w.Chain.Judge.Cases))
	for _, c := range w.Chain.Counts {
		out += fmt.Sprintf(" %.2x: %d", c.Who, c.N)
	}
	for _, x := range w.Wallets {
		out += fmt.Sprintf("; %.2x on %d+%d fuse %d off %t", x.Book.Who, len(x.Disk.Data), len(x.Disk.Tail), x.Disk.Fuse, x.Disk.Off)
		for _, c := range x.Book.Chans {
			out += fmt.Sprintf(", %.2x ", c.Id) + toldChan(c)
		}
	}
	for i, p := range w.Posts {
		m, err := mail.Read(p.Raw)
		out += fmt.Sprintf("; post %d from %d to %.2x turn %d (%d)", i, p.From, p.To, m.Signed.Var.Turn, err)
	}
	for i, raw := range w.Txs {
		tx, who, err := call.Open(raw)
		out += fmt.Sprintf("; transaction %d kind %d nonce %d by %.2x (%d)", i, tx.Kind, tx.Nonce, who, err)
	}
	return out
}

// toldChan is a channel as a wallet keeps it, in the words of chapter 32's kept.
func toldChan(c api.Chan) string {
	out := fmt.Sprint("mine ", c.Mine, " kept")
	for _, k := range c.Kept {
		out += fmt.Sprint(" ", k.Var.Turn)
	}
	best := "none"
	if l := book.Best(c); len(l) > 0 {
		best = fmt.Sprint(l[len(l)-1].Var.Turn)
	}
	return out + " best " + best
}

// What the chapter says, in the order of its words.

// plainNew is 'A world begins'.
func plainNew(n int) api.World {
	if n < 1 {
		n = 1
	}
	if n > 3 {
		n = 3
	}
	w := api.World{Chain: api.Chain{Now: 1}}
	for k := 0; k < n; k++ {
		x, _ := wallet.Step(wallet.New(), api.Act{Kind: 1, Key: key.Small(uint64(k))}, w.Chain)
		w.Wallets = append(w.Wallets, x)
	}
	return w
}

// plainTold is 'A wallet's step'.
func plainTold(w api.World, place int, a api.Act) (api.World, api.Errno) {
	x, r := wallet.Step(w.Wallets[place], a, w.Chain)
	w.Wallets = slices.Clone(w.Wallets)
	w.Wallets[place] = x
	w.Posts, w.Txs = slices.Clone(w.Posts), slices.Concat(w.Txs, r.Txs)
	for _, l := range r.Letters {
		w.Posts = append(w.Posts, api.Post{From: place, To: l.To, Raw: l.Raw})
	}
	return w, r.Err
}

// plainStep is 'A move'.
func plainStep(w api.World, m api.Move) (api.World, api.Errno) {
	ofWallet := m.Kind == 1 || m.Kind == 2 || m.Kind == 4 || m.Kind == 8 || m.Kind == 9
	if ofWallet && (m.Who < 0 || m.Who > len(w.Wallets)-1) {
		return w, api.ErrNone
	}
	var err api.Errno
	var r api.Receipt
	switch m.Kind {
	case 1:
		w.Chain, err = chain.Mint(w.Chain, w.Wallets[m.Who].Book.Who, m.Asset, m.Amount)
		return w, err
	case 2:
		return plainTold(w, m.Who, m.Act)
	case 3:
		if m.N < 0 || m.N > len(w.Posts)-1 {
			return w, api.ErrNone
		}
		for place, x := range w.Wallets {
			if x.Book.Who == w.Posts[m.N].To {
				return plainTold(w, place, api.Act{Kind: 4, Raw: w.Posts[m.N].Raw})
			}
		}
		return w, api.ErrNone
	case 4:
		return plainTold(w, m.Who, api.Act{Kind: 4, Raw: m.Raw})
	case 5:
		if m.N < 0 || m.N > len(w.Txs)-1 {
			return w, api.ErrNone
		}
		w.Chain, r = chain.Apply(w.Chain, w.Txs[m.N])
		return w, r.Err
	case 6:
		w.Chain, r = chain.Apply(w.Chain, m.Raw)
		return w, r.Err
	case 7:
		w.Chain, err = chain.Tick(w.Chain, m.N)
		return w, err
	case 8, 9:
		w.Wallets = slices.Clone(w.Wallets)
		x := &w.Wallets[m.Who]
		if m.Kind == 8 {
			x.Disk = disk.Arm(x.Disk, m.N)
		} else {
			*x = wallet.Boot(*x, m.N)
		}
		return w, 0
	}
	return w, api.ErrForm
}

// wantStep fails the test unless a world is this behind a move, by the test's word and by the chapter's; what it tells then is given back.
func wantStep(t testing.TB, what string, w api.World, m api.Move, want api.World, wantErr api.Errno) api.World {
	t.Helper()
	before := spelled(w) + spelled(m)
	got, err := Step(w, m)
	if spelled(w)+spelled(m) != before {
		t.Errorf("%s: what was given was changed", what)
	}
	if err != wantErr || spelled(got) != spelled(want) || !Same(got, want) {
		t.Errorf("%s: error %d, %s\nwant error %d, %s", what, err, told(got), wantErr, told(want))
	}
	if said, saidErr := plainStep(w, m); saidErr != wantErr || spelled(said) != spelled(want) {
		t.Errorf("%s: the chapter's words say error %d, %s", what, saidErr, told(said))
	}
	wantWhole(t, what, got)
	return got
}

// refuses fails the test unless a move has this error, and leaves the world as it was.
func refuses(t testing.TB, what string, w api.World, m api.Move, err api.Errno) {
	t.Helper()
	wantStep(t, what, w, m, w, err)
}

// wantWhole fails the test unless what follows holds of a world, whatever went ahead.
func wantWhole(t testing.TB, what string, w api.World) {
	t.Helper()
	wantLasting(t, what, w)
	wantOnce(t, what, w)
	wantSealed(t, what, w, len(w.Wallets))
}

// replays has the book of each device's bytes that a test has asked for, since seals are dear to look at.
var replays sync.Map

// wantLasting is P30.4.
func wantLasting(t testing.TB, what string, w api.World) {
	t.Helper()
	for place, x := range w.Wallets {
		of, ok := replays.Load(x.Disk.Data)
		if !ok {
			of = book.Replay(x.Disk.Data)
			replays.Store(x.Disk.Data, of)
		}
		if !book.Same(of.(api.Book), x.Book) {
			t.Errorf("%s: what lasts of wallet %d is not its book: %s", what, place, told(w))
		}
	}
}

// wantOnce is P30.5.
func wantOnce(t testing.TB, what string, w api.World) {
	t.Helper()
	said := map[string]string{}
	for i, p := range w.Posts {
		m, err := mail.Read(p.Raw)
		if err != api.OK {
			t.Errorf("%s: post %d: error %d", what, i, err)
		}
		turn := fmt.Sprint(p.From, state.Id(m.Fixed), m.Signed.Var.Turn)
		raw := state.Write(m.Signed.Var)
		if before, ok := said[turn]; ok && before != raw {
			t.Errorf("%s: post %d: turn %d once more, unlike", what, i, m.Signed.Var.Turn)
		}
		said[turn] = raw
	}
}

// wantSealed is P30.6, of the first so many wallets: of these no move has borne a seal that was not theirs to give.
func wantSealed(t testing.TB, what string, w api.World, wallets int) {
	t.Helper()
	for place, x := range w.Wallets[:wallets] {
		for _, c := range x.Book.Chans {
			of, ok := judge.Find(w.Chain.Judge, c.Id)
			if ok && of.Turn >= c.Mine+uint64(len(c.Fixed.Parts))-1 {
				t.Errorf("%s: the judge knows turn %d, wallet %d has signed those below %d", what, of.Turn, place, c.Mine)
			}
		}
	}
}
