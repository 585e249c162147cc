package wallet

import (
	"fmt"
	"slices"
	"strings"
	"testing"

	"truce/api"
	"truce/book"
	"truce/chain"
	"truce/disk"
	"truce/judge"
	"truce/log"
	"truce/mail"
	"truce/state"
)

// party is some wallets, the chain, all letters that were sent, and, of each wallet, what its device's bytes tell and what it has sent of each turn.
type party struct {
	seed    uint64
	fixed   []api.Fixed
	wallets []api.Wallet
	lasting []api.Book
	read    []int
	chain   api.Chain
	letters [][]string // to each wallet
	heard   []int      // how many of them have come
	txs     []string
	said    map[string]string
	met     map[string]int
}

func newParty(t testing.TB, seed uint64, met map[string]int) *party {
	t.Helper()
	p := &party{seed: seed, chain: fresh(), met: met, said: map[string]string{}}
	l := []api.Fixed{channel(t, 2, bare), channel(t, 3, yes), numbered(t, 3, bare, 8), numbered(t, 2, yes, 9)}
	p.fixed = []api.Fixed{l[seed%4], l[seed/4%4]}
	for me := range 3 {
		p.wallets, p.lasting, p.read = append(p.wallets, New()), append(p.lasting, api.Book{}), append(p.read, 0)
		p.letters, p.heard = append(p.letters, nil), append(p.heard, 0)
		for _, asset := range []string{fee, gold} {
			c, err := chain.Mint(p.chain, whoOf(t, me), asset, api.U{99})
			if err != api.OK {
				t.Fatalf("not minted: error %d", err)
			}
			p.chain = c
		}
	}
	for me := range p.wallets {
		p.tell(t, me, acKey(me))
		for _, f := range p.fixed {
			p.tell(t, me, acOpen(f))
		}
	}
	return p
}

// step lets a wallet be told something, or its power fail, or come back.
func (p *party) step(t testing.TB) {
	t.Helper()
	me := below(&p.seed, len(p.wallets))
	for range 3 {
		if !p.isItsTurn(me) && p.heard[me] == len(p.letters[me]) {
			me = below(&p.seed, len(p.wallets))
		}
	}
	switch kind := p.due(me); {
	case kind == api.AcMove:
		p.tell(t, me, acMove(p.move(t, me)))
	case kind == api.AcHear:
		p.hear(t, me)
	case kind == api.AcLook:
		p.look(t, me)
	case below(&p.seed, 3) == 0:
		p.wallets[me].Disk = disk.Arm(p.wallets[me].Disk, below(&p.seed, 3000)-400)
		p.wantLast(t, "arm", me)
	default:
		p.tell(t, me, p.oddAct(t))
		p.chain.Now += below(&p.seed, 3)
	}
	if w := p.wallets[me]; w.Disk.Off && below(&p.seed, 2) == 0 {
		p.wallets[me] = Boot(w, below(&p.seed, 500))
		p.met["boots"]++
		p.wantLast(t, "boot", me)
	}
}

// due is mostly the kind of act that a wallet waits for: a letter, a turn of its own, a look; seldom another one, or none of these.
func (p *party) due(me int) int {
	kinds := []int{api.AcMove, api.AcHear, api.AcLook, 0, 0}
	switch {
	case below(&p.seed, 4) == 0:
		return kinds[below(&p.seed, len(kinds))]
	case p.heard[me] < len(p.letters[me]):
		return api.AcHear
	case p.isItsTurn(me) && below(&p.seed, 2) == 0:
		return api.AcMove
	}
	return api.AcLook
}

// isItsTurn tells whether a wallet may move in some channel.
func (p *party) isItsTurn(me int) bool {
	for _, c := range p.wallets[me].Book.Chans {
		if nextOf(c)%len(c.Fixed.Parts) == c.Me {
			return true
		}
	}
	return false
}

// move is a move that is often one that may be: in a channel where it is its turn, as it was, in the first turns, or with another share.
func (p *party) move(t testing.TB, me int) (api.Fixed, api.Var) {
	t.Helper()
	f := p.fixed[below(&p.seed, len(p.fixed))]
	for range 20 {
		c, ok := book.Find(p.wallets[me].Book, state.Id(f))
		if ok && nextOf(c)%len(f.Parts) == c.Me {
			break
		}
		f = p.fixed[below(&p.seed, len(p.fixed))]
	}
	v := with(0, split(t, slices.Repeat([]uint64{3}, len(f.Parts))...))
	c, _ := book.Find(p.wallets[me].Book, state.Id(f))
	if n := len(c.Kept); n > 0 {
		v = c.Kept[n-1].Var
		if v.Turn+1 >= uint64(2*len(f.Parts)) {
			left := uint64(below(&p.seed, 7))
			v.Exits = split(t, slices.Concat([]uint64{left, 6 - left}, slices.Repeat([]uint64{3}, len(f.Parts)-2))...)
			v.Final = below(&p.seed, 25) == 0
		}
	}
	if below(&p.seed, 12) == 0 {
		v.Data = fmt.Sprint(below(&p.seed, 3))
	}
	return f, v
}

// nextOf is the turn behind the last one that is kept.
func nextOf(c api.Chan) int {
	if len(c.Kept) == 0 {
		return 0
	}
	return int(c.Kept[len(c.Kept)-1].Var.Turn) + 1
}

// hear lets a wallet hear mostly its next letter, which comes once more if its power failed over it, sometimes one that has come already; seldom one is spoilt, or others have sealed something behind its back.
func (p *party) hear(t testing.TB, me int) {
	t.Helper()
	l, n := p.letters[me], p.heard[me]
	if len(l) == 0 || below(&p.seed, 70) == 0 {
		p.tell(t, me, acHear(p.forged(t, me)))
		return
	}
	if n == len(l) || below(&p.seed, 8) == 0 {
		n = below(&p.seed, len(l))
	}
	raw := []byte(l[n])
	if below(&p.seed, 25) == 0 {
		raw[below(&p.seed, len(raw))] ^= 1
	}
	r := p.tell(t, me, acHear(string(raw)))
	if n == p.heard[me] && r.Err != api.ErrPower {
		p.heard[me]++
	}
}

// forged is a mail of a state that some others may have sealed, whatever went ahead.
func (p *party) forged(t testing.TB, me int) string {
	t.Helper()
	f := p.fixed[below(&p.seed, len(p.fixed))]
	parts := []int{(me + 1) % len(f.Parts)}
	for part := range f.Parts {
		if part != me && below(&p.seed, 3) > 0 {
			parts = append(parts, part)
		}
	}
	return mailOf(t, f, with(uint64(below(&p.seed, 8)), split(t, 3, 3)), parts...)
}

// look lets a wallet look; the chain mostly takes what it does, sometimes something that was done before.
func (p *party) look(t testing.TB, me int) {
	t.Helper()
	before := len(p.txs)
	p.tell(t, me, acLook())
	l := p.txs[before:]
	if len(p.txs) > 0 && below(&p.seed, 5) == 0 {
		l = p.txs[below(&p.seed, len(p.txs)):]
	}
	for _, raw := range l {
		next, r := chain.Apply(p.chain, raw)
		p.chain = next
		p.met[fmt.Sprintf("taken %t error %d", r.Taken, r.Err)]++
	}
}

// oddAct is an act that a wallet is seldom told.
func (p *party) oddAct(t testing.TB) api.Act {
	t.Helper()
	f := p.fixed[below(&p.seed, len(p.fixed))]
	l := []api.Act{acOpen(f), acOpen(numbered(t, 2, bare, uint64(below(&p.seed, 9)))), acKey(below(&p.seed, 3)), acLook(), {Kind: below(&p.seed, 9)}}
	if below(&p.seed, 14) == 0 {
		return acExit(f)
	}
	return l[below(&p.seed, len(l))]
}

// fail lets a wallet's power fail soon, or has it fail no more.
func (p *party) fail(t testing.TB, me int) {
	t.Helper()
	p.wallets[me].Disk = disk.Arm(p.wallets[me].Disk, below(&p.seed, 3000)-400)
	p.wantLast(t, "arm", me)
}

// tell tells a wallet an act, and holds what comes of it against the chapter's words.
func (p *party) tell(t testing.TB, me int, a api.Act) api.Reply {
	t.Helper()
	w := p.wallets[me]
	got, r := Step(w, a, p.chain)
	want, wantReply := plainStep(w, a, p.chain)
	what := fmt.Sprintf("%d, kind %d", me, a.Kind)
	if spelled(got) != spelled(want) || spelled(r) != spelled(wantReply) {
		t.Fatalf("%s: %s, %s\nwant %s, %s", what, told(got), toldReply(r), told(want), toldReply(wantReply))
	}
	p.wallets[me] = got
	p.wantLast(t, what, me)
	wantRead(t, what, got, r)
	p.wantOnce(t, what, me, r)
	p.txs = append(p.txs, r.Txs...)
	for _, l := range r.Letters {
		for to := range p.wallets {
			if whoOf(t, to) == l.To {
				p.letters[to] = append(p.letters[to], l.Raw)
			}
		}
	}
	p.met[fmt.Sprintf("kind %d error %d", a.Kind, r.Err)]++
	if len(r.Letters) > 0 {
		p.met[fmt.Sprintf("kind %d sends", a.Kind)]++
	}
	if len(r.Letters) > 0 && r.Err != api.OK {
		p.met["sends and fails"]++
	}
	p.met[fmt.Sprint("txs ", len(r.Txs))]++
	return r
}

// wantLast fails the test unless a wallet's book is that of the bytes that last, which are those that lasted and more. P29.4.
func (p *party) wantLast(t testing.TB, what string, me int) {
	t.Helper()
	w := p.wallets[me]
	if len(w.Disk.Data) < p.read[me] {
		t.Fatalf("%s: bytes are lost: %s", what, told(w))
	}
	texts, n := log.Frames(w.Disk.Data[p.read[me]:])
	for _, text := range texts {
		e, err := book.Read(text)
		if err != api.OK {
			t.Fatalf("%s: an entry is none: error %d", what, err)
		}
		p.lasting[me], _ = book.Apply(p.lasting[me], e)
	}
	p.read[me] += n
	if p.read[me] != len(w.Disk.Data) || !book.Same(p.lasting[me], w.Book) || !disk.Fit(w.Disk) || w.Disk.Tail != "" && !w.Disk.Off {
		t.Fatalf("%s: what lasts is not the book: %s", what, told(w))
	}
}

// wantOnce fails the test if a wallet has sent two unlike states of a channel's turn, both as its own. P29.5.
func (p *party) wantOnce(t testing.TB, what string, me int, r api.Reply) {
	t.Helper()
	for _, l := range r.Letters {
		m, _ := mail.Read(l.Raw)
		turn := fmt.Sprint(me, state.Id(m.Fixed), m.Signed.Var.Turn)
		raw := state.Write(m.Signed.Var)
		if before, ok := p.said[turn]; ok && before != raw {
			t.Fatalf("%s: turn %d twice", what, m.Signed.Var.Turn)
		}
		p.said[turn] = raw
	}
}

// P29.2 to P29.6: wallets that are told all kinds of things, while their power fails now and then.
func TestMixed(t *testing.T) {
	met := map[string]int{}
	for row := range 10 {
		p := newParty(t, uint64(row)+29, met)
		for range 140 {
			p.step(t)
		}
		for me, w := range p.wallets {
			if !book.Same(book.Replay(w.Disk.Data), w.Book) {
				t.Errorf("row %d: what lasts of %d is not its book", row, me)
			}
		}
	}
	for what, least := range map[string]int{
		"boots": 20, "kind 1 error 0": 30, "kind 2 error 0": 40, "kind 3 sends": 100, "kind 3 error 26": 8, "kind 4 error 0": 200, "kind 4 sends": 30,
		"kind 4 error 26": 20, "kind 5 sends": 5, "kind 6 error 0": 5, "taken true error 0": 40, "taken false error 17": 50, "txs 1": 30, "txs 2": 2,
	} {
		if met[what] < least {
			t.Errorf("%s was met %d times", what, met[what])
		}
	}
}

// game is wallets that all mean well, one channel, and the chain, which takes what they send at once.
type game struct {
	wallets []api.Wallet
	fixed   api.Fixed
	chain   api.Chain
	waiting []api.Letter
}

func newGame(t testing.TB, parts int, says string, fees, golds uint64) *game {
	t.Helper()
	g := &game{fixed: channel(t, parts, says), chain: fresh()}
	for me := range parts {
		w := New()
		for _, a := range []api.Act{acKey(me), acOpen(g.fixed)} {
			next, r := Step(w, a, g.chain)
			if r.Err != api.OK {
				t.Fatalf("kind %d: error %d", a.Kind, r.Err)
			}
			w = next
		}
		g.wallets = append(g.wallets, w)
		g.mint(t, me, fee, fees)
		g.mint(t, me, gold, golds)
	}
	return g
}

func (g *game) mint(t testing.TB, me int, asset string, n uint64) {
	t.Helper()
	c, err := chain.Mint(g.chain, whoOf(t, me), asset, api.U{n})
	if err != api.OK {
		t.Fatalf("not minted: error %d", err)
	}
	g.chain = c
}

// does tells a wallet an act that must go, and brings what it sends to the chain; letters wait.
func (g *game) does(t testing.TB, me int, a api.Act) {
	t.Helper()
	w, r := Step(g.wallets[me], a, g.chain)
	if r.Err != api.OK {
		t.Fatalf("%d, kind %d: %s", me, a.Kind, toldReply(r))
	}
	g.wallets[me] = w
	g.waiting = append(g.waiting, r.Letters...)
	for _, raw := range r.Txs {
		c, receipt := chain.Apply(g.chain, raw)
		if !receipt.Taken || receipt.Err != api.OK {
			t.Fatalf("%d, kind %d: a transaction is taken: %t, error %d", me, a.Kind, receipt.Taken, receipt.Err)
		}
		g.chain = c
	}
}

// post brings all letters to whom they go, and what these bring.
func (g *game) post(t testing.TB) {
	t.Helper()
	for len(g.waiting) > 0 {
		l := g.waiting[0]
		g.waiting = g.waiting[1:]
		for me := range g.wallets {
			if whoOf(t, me) == l.To {
				g.does(t, me, acHear(l.Raw))
			}
		}
	}
}

// kept is a channel as a wallet keeps it, in words.
func (g *game) kept(me int) string {
	c, _ := book.Find(g.wallets[me].Book, state.Id(g.fixed))
	out := fmt.Sprint("mine ", c.Mine, " kept")
	for _, k := range c.Kept {
		out += fmt.Sprint(" ", k.Var.Turn)
	}
	best := "none"
	if l := book.Best(c); len(l) > 0 {
		best = fmt.Sprint(l[len(l)-1].Var.Turn)
	}
	return out + " best " + best
}

func (g *game) wantKept(t testing.TB, me int, want string) {
	t.Helper()
	if got := g.kept(me); got != want {
		t.Errorf("%d: %s, want %s", me, got, want)
	}
}

func (g *game) wantHeld(t testing.TB, want uint64) {
	t.Helper()
	if held := judge.Held(g.chain.Judge, state.Id(g.fixed), gold); held != (api.U{want}) {
		t.Errorf("held: %v, want %d", held, want)
	}
}

// wantCoins fails the test unless a participant has so much gold, and so much to pay fees by.
func (g *game) wantCoins(t testing.TB, me int, golds, fees uint64) {
	t.Helper()
	has := map[string]uint64{}
	for _, c := range g.chain.Coins {
		if c.Who == whoOf(t, me) {
			has[c.Asset] = c.Amount[0]
		}
	}
	if has[gold] != golds || has[fee] != fees {
		t.Errorf("%d has %d and %d, want %d and %d", me, has[gold], has[fee], golds, fees)
	}
}

// P29.2: what DOC.md's third and sixth examples tell of wallets.
func TestWholeExamples(t *testing.T) {
	g := newGame(t, 2, bare, 9, 9)
	v := with(0, split(t, 4, 5))
	g.does(t, 0, acMove(g.fixed, v))
	g.post(t)
	g.wantKept(t, 1, "mine 0 kept 0 best none")
	g.does(t, 1, acMove(g.fixed, v))
	g.post(t)
	g.wantKept(t, 0, "mine 1 kept 0 1 best 1")
	g.does(t, 0, acLook())
	g.wantHeld(t, 4)
	g.wantCoins(t, 0, 5, 8)

	g = newGame(t, 2, bare, 5, 0)
	for me := range 2 {
		g.does(t, me, acMove(g.fixed, with(0, split(t, 0, 0))))
		g.post(t)
	}
	g.does(t, 0, acLook())
	g.wantKept(t, 0, "mine 3 kept 0 1 2 best 2")
	g.does(t, 0, acExit(g.fixed))
	g.does(t, 0, acLook())
	if c, ok := judge.Find(g.chain.Judge, state.Id(g.fixed)); !ok || c.Turn != 2 || c.Ends != 10 {
		t.Errorf("challenged: %t, turn %d, ends %d", ok, c.Turn, c.Ends)
	}
	g.wantHeld(t, 0)
}

// P29.2: wallets that mean well open a channel, move, leave it, and have what the last state says; each one's power fails between any two acts.
func TestWhole(t *testing.T) {
	for n := 2; n <= 4; n++ {
		for _, says := range []string{bare, yes} {
			g := newGame(t, n, says, 9, 9)
			l := split(t, slices.Repeat([]uint64{3}, n)...)
			for me := range n {
				g.does(t, me, acMove(g.fixed, with(0, l)))
				g.post(t)
			}
			for range 2 {
				for me := range n {
					g.does(t, me, acLook())
					g.post(t)
					g.wallets[me] = Boot(g.wallets[me], 7)
				}
			}
			what := fmt.Sprintf("%d by %q", n, says)
			g.wantHeld(t, uint64(3*n))
			shares := slices.Concat([]uint64{1, 5}, slices.Repeat([]uint64{3}, n-2))
			g.does(t, 0, acMove(g.fixed, with(0, split(t, shares...))))
			g.post(t)
			g.does(t, 1, acMove(g.fixed, final(with(0, split(t, shares...)))))
			g.post(t)
			for me := range n {
				g.wallets[me] = Boot(g.wallets[me], 0)
			}
			g.does(t, n-1, acExit(g.fixed))
			g.does(t, n-1, acLook())
			g.does(t, 0, acLook())
			g.wantHeld(t, 0)
			for me, share := range shares {
				fees := uint64(8)
				if me == 0 || me == n-1 {
					fees--
				}
				g.wantCoins(t, me, 6+share, fees)
			}
			if t.Failed() {
				t.Fatal(what, strings.Join([]string{g.kept(0), g.kept(1)}, ", "))
			}
		}
	}
}
