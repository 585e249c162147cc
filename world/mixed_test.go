package world

import (
	"fmt"
	"slices"
	"testing"

	"truce/api"
	"truce/book"
	"truce/call"
	"truce/chain"
	"truce/judge"
	"truce/log"
	"truce/mail"
	"truce/num"
	"truce/state"
	"truce/watch"
)

// town is a world that mixed moves go through, somebody in it who means ill, and what a test knows of it.
type town struct {
	seed    uint64
	world   api.World
	moves   []api.Move
	fixed   []api.Fixed
	owned   []int // whose keys the one who means ill has: the outsider's, and perhaps the last wallet's
	honest  int   // how many wallets have their keys for themselves
	heard   int   // how many letters have come
	known   map[string][]api.Signed
	made    map[string]api.U
	said    map[string]string
	lasting []api.Book
	read    []int
	met     map[string]int
}

func newTown(t testing.TB, seed uint64, met map[string]int) *town {
	t.Helper()
	n := []int{1, 2, 3, 2, 3, 3}[seed%6]
	p := &town{seed: seed, world: New(n), owned: []int{outsider}, honest: n, met: met}
	p.known, p.made, p.said = map[string][]api.Signed{}, map[string]api.U{}, map[string]string{}
	p.lasting, p.read = make([]api.Book, n), make([]int, n)
	switch n {
	case 1:
		p.fixed = []api.Fixed{channel(t, yes, 0, outsider), channel(t, bare, outsider, 0)}
	case 2:
		p.fixed = []api.Fixed{channel(t, bare, 0, 1), channel(t, yes, 1, 0, outsider)}
	case 3:
		p.fixed = []api.Fixed{channel(t, yes, 0, 1, 2), channel(t, bare, 2, 1)}
	}
	if seed%6 == 1 || seed%6 == 2 || seed%6 == 5 {
		p.owned, p.honest = append(p.owned, n-1), n-1
	}
	for who := range n {
		p.do(t, mint(who, 60, fee))
		p.do(t, mint(who, 40, gold))
		for _, f := range p.fixed {
			p.do(t, open(who, f))
		}
	}
	return p
}

func (p *town) below(n int) int { return below(&p.seed, n) }

func (p *town) who() int { return p.below(len(p.world.Wallets)) }

// step does one move more, mostly one that somebody waits for.
func (p *town) step(t testing.TB) {
	t.Helper()
	off := slices.IndexFunc(p.world.Wallets, func(x api.Wallet) bool { return x.Disk.Off })
	if off >= 0 && p.below(3) == 0 {
		p.do(t, crash(off, p.below(900)-90))
		return
	}
	switch k := p.below(100); {
	case k < 30:
		p.letter(t)
	case k < 44:
		p.turn(t)
	case k < 60:
		p.look(t)
	case k < 88:
		p.attack(t)
	case k < 92:
		p.do(t, arm(p.who(), p.below(9000)-900))
	default:
		p.odd(t)
	}
}

// letter lets the next letter come, once more if there was no power for it; sometimes another one, or one that is spoilt.
func (p *town) letter(t testing.TB) {
	t.Helper()
	l := p.world.Posts
	switch {
	case len(l) == 0 || p.below(20) == 0:
		p.do(t, post(p.below(len(l)+3)-1))
	case p.below(20) == 0:
		raw := []byte(l[p.below(len(l))].Raw)
		raw[p.below(len(raw))] ^= 1
		p.do(t, hear(p.who(), string(raw)))
	case p.below(9) == 0:
		p.do(t, hear(p.who(), l[p.below(len(l))].Raw))
	case p.heard == len(l):
		p.turn(t)
	default:
		if p.do(t, post(p.heard)) != api.ErrPower {
			p.heard++
		}
	}
}

// turn lets a wallet whose turn it is move, as it was, or sharing otherwise; sometimes one whose turn it is not.
func (p *town) turn(t testing.TB) {
	t.Helper()
	who, f := p.who(), p.fixed[p.below(len(p.fixed))]
	for range 20 {
		c, ok := book.Find(p.world.Wallets[who].Book, state.Id(f))
		if ok && nextOf(c)%len(f.Parts) == c.Me {
			break
		}
		who, f = p.who(), p.fixed[p.below(len(p.fixed))]
	}
	c, _ := book.Find(p.world.Wallets[who].Book, state.Id(f))
	v := p.first(t, f)
	if n := len(c.Kept); n > 0 {
		v = p.behind(f, c.Kept[n-1].Var)
	}
	if p.below(15) == 0 {
		v.Data = fmt.Sprint(p.below(3))
	}
	p.do(t, turns(who, f, v))
}

// nextOf is the turn behind the last one that is kept.
func nextOf(c api.Chan) int {
	if len(c.Kept) == 0 {
		return 0
	}
	return int(c.Kept[len(c.Kept)-1].Var.Turn) + 1
}

// first is a channel's first state: 3 for each wallet, nothing for who is none.
func (p *town) first(t testing.TB, f api.Fixed) api.Var {
	t.Helper()
	var l []uint64
	for _, who := range f.Parts {
		l = append(l, 3)
		if who == whoOf(t, outsider) {
			l[len(l)-1] = 0
		}
	}
	return with(0, split(f, l...))
}

// behind is a state that may come behind another one: from the turn on from which it may share otherwise it mostly does, and now and then is the last one.
func (p *town) behind(f api.Fixed, v api.Var) api.Var {
	v.Turn++
	if v.Turn < uint64(2*len(f.Parts)) {
		return v
	}
	all, _ := state.Total(v.Exits, gold)
	left := uint64(p.below(int(all[0]) + 1))
	l := make([]uint64, len(f.Parts))
	l[0], l[len(l)-1] = left, all[0]-left
	v.Exits, v.Final = split(f, l...), p.below(25) == 0
	return v
}

// look lets a wallet look, now and then one that wants to be out; the chain mostly takes what it does, and time goes by.
func (p *town) look(t testing.TB) {
	t.Helper()
	who := p.who()
	if p.below(20) == 0 {
		p.do(t, exit(who, p.fixed[p.below(len(p.fixed))]))
	}
	before, risk := len(p.world.Txs), p.isAtRisk(who)
	done := p.do(t, look(who)) == api.OK
	for n := before; n < len(p.world.Txs); n++ {
		done = p.below(12) > 0 && p.do(t, take(n)) == api.OK && done
	}
	// DOC.md's T4.
	if done && p.isAtRisk(who) {
		t.Fatalf("wallet %d has looked, and is at risk: %s", who, told(p.world))
	}
	if done && risk {
		p.met["out of a risk"]++
	}
	if p.below(6) == 0 {
		p.do(t, take(p.below(len(p.world.Txs)+3)-1))
	}
	if p.below(4) == 0 {
		p.do(t, tick(p.below(14)-1))
	}
}

// isAtRisk tells whether a channel of a wallet is challenged by an older state than it can prove.
func (p *town) isAtRisk(who int) bool {
	b := p.world.Wallets[who].Book
	return slices.ContainsFunc(b.Chans, func(c api.Chan) bool {
		return watch.Risk(p.world.Chain.Judge, p.world.Chain.Now, b, c.Id)
	})
}

// attack lets the one who means ill sign something with all keys that it has, and send it to a wallet, or lay it down.
func (p *town) attack(t testing.TB) {
	t.Helper()
	f := p.fixed[p.below(len(p.fixed))]
	v := p.first(t, f)
	if l := p.known[state.Id(f)]; len(l) > 0 {
		v = l[len(l)-1].Var
		switch p.below(8) {
		case 0:
			v = l[p.below(len(l))].Var
		case 1:
			v = p.behind(f, l[p.below(len(l))].Var)
		default:
			if slices.Contains(p.owners(t), f.Parts[(v.Turn+1)%uint64(len(f.Parts))]) {
				v = p.behind(f, v)
			}
		}
	}
	if p.below(20) == 0 {
		v.Final = true
	}
	s := p.sealed(t, f, v)
	if len(s.Seals) == 0 {
		return
	}
	p.learn(state.Id(f), s)
	if p.below(6-3*(len(p.owned)-1)) == 0 {
		p.lay(t, f, s)
		return
	}
	raw := mail.Write(api.Mail{Fixed: f, Signed: s})
	for who := range p.world.Wallets {
		p.do(t, hear(who, raw))
	}
}

// owners are the addresses of the keys that the one who means ill has.
func (p *town) owners(t testing.TB) []string {
	t.Helper()
	var l []string
	for _, place := range p.owned {
		l = append(l, whoOf(t, place))
	}
	return l
}

// sealed is a state with the seals by keys that the one who means ill has, and those that it knows.
func (p *town) sealed(t testing.TB, f api.Fixed, v api.Var) api.Signed {
	t.Helper()
	s := api.Signed{Var: v}
	for _, place := range p.owned {
		if slices.Contains(f.Parts, whoOf(t, place)) {
			s.Seals = append(s.Seals, sealOf(t, f, v, place))
		}
	}
	for _, k := range p.known[state.Id(f)] {
		if state.Write(k.Var) == state.Write(v) {
			for _, one := range k.Seals {
				if !slices.Contains(s.Seals, one) {
					s.Seals = append(s.Seals, one)
				}
			}
		}
	}
	return s
}

// learn notes what was sent of a channel: of each state all seals, the highest turn last.
func (p *town) learn(id string, s api.Signed) {
	l := p.known[id]
	at := slices.IndexFunc(l, func(k api.Signed) bool { return state.Write(k.Var) == state.Write(s.Var) })
	if at < 0 {
		at = len(l)
		for at > 0 && l[at-1].Var.Turn > s.Var.Turn {
			at--
		}
		p.known[id] = slices.Insert(l, at, s)
		return
	}
	for _, one := range s.Seals {
		if !slices.Contains(l[at].Seals, one) {
			l[at].Seals = append(slices.Clone(l[at].Seals), one)
		}
	}
}

// lay brings a state to the chain, with states ahead of it, so that it may be supported; often by a key that can pay for it.
func (p *town) lay(t testing.TB, f api.Fixed, s api.Signed) {
	t.Helper()
	row, ahead := []api.Signed{s}, len(f.Parts)-1
	if len(s.Seals) == len(f.Parts) || p.below(6) == 0 {
		ahead = p.below(2)
	}
	for range ahead {
		for _, k := range p.known[state.Id(f)] {
			if k.Var.Turn+1 == row[0].Var.Turn {
				row = slices.Insert(row, 0, k)
				break
			}
		}
	}
	by := p.owned[len(p.owned)-1]
	if p.below(4) == 0 {
		by = outsider
	}
	kind := []int{api.TxChallenge, api.TxCheckpoint, api.TxConclude}[p.below(3)]
	nonce := chain.Next(p.world.Chain, whoOf(t, by))
	p.do(t, tx(txOf(t, by, nonce, api.Tx{Kind: kind, Fixed: f, Proof: row})))
	if rich := p.honest; by == outsider && rich < len(p.world.Wallets) && p.below(2) == 0 {
		nonce = chain.Next(p.world.Chain, whoOf(t, rich))
		p.do(t, tx(txOf(t, rich, nonce, api.Tx{Kind: api.TxSend, To: whoOf(t, outsider), Asset: fee, Amount: num.Of(2)})))
	}
}

// odd does a move that is seldom done.
func (p *town) odd(t testing.TB) {
	t.Helper()
	who := p.below(5) - 1
	f := p.fixed[p.below(len(p.fixed))]
	l := []api.Move{
		mint(who, uint64(p.below(9)), gold), mint(who, 1, rep(9, 19+p.below(2))), open(who, f), look(who), crash(who, p.below(40)), arm(who, -1),
		{Kind: p.below(13) - 1, Who: who, N: p.below(9) - 1}, act(who, api.Act{Kind: p.below(9) - 1}), tick(-1), tx(rep(1, p.below(99))), hear(who, ""),
	}
	if n := len(p.world.Txs); n > 0 {
		raw := []byte(p.world.Txs[p.below(n)])
		raw[p.below(len(raw))] ^= 1
		l = append(l, tx(string(raw)))
	}
	p.do(t, l[p.below(len(l))])
}

// do does a move, and holds what comes of it against the chapter's words.
func (p *town) do(t testing.TB, m api.Move) api.Errno {
	t.Helper()
	got, err := Step(p.world, m)
	want, wantErr := plainStep(p.world, m)
	what := fmt.Sprintf("move %d, kind %d, %d, %d", len(p.moves), m.Kind, m.Who, m.N)
	if err != wantErr || spelled(got) != spelled(want) {
		t.Fatalf("%s: error %d, %s\nwant error %d, %s", what, err, told(got), wantErr, told(want))
	}
	before := len(p.world.Posts)
	p.world, p.moves = got, append(p.moves, m)
	for _, l := range got.Posts[before:] {
		p.wantOnce(t, what, l)
	}
	p.wantLasting(t, what)
	if m.Kind == api.MvMint && err == api.OK {
		p.made[m.Asset], _ = num.Add(p.made[m.Asset], m.Amount)
	}
	p.wantMoney(t, what)
	wantSealed(t, what, got, p.honest)
	p.met[fmt.Sprintf("kind %d error %d", m.Kind, err)]++
	p.meet()
	return err
}

// wantOnce is P30.5 of a letter more.
func (p *town) wantOnce(t testing.TB, what string, l api.Post) {
	t.Helper()
	m, err := mail.Read(l.Raw)
	turn, raw := fmt.Sprint(l.From, state.Id(m.Fixed), m.Signed.Var.Turn), state.Write(m.Signed.Var)
	if before, ok := p.said[turn]; err != api.OK || ok && before != raw {
		t.Fatalf("%s: error %d, turn %d, sent before: %t", what, err, m.Signed.Var.Turn, ok)
	}
	p.said[turn] = raw
	p.learn(state.Id(m.Fixed), m.Signed)
}

// wantLasting is P30.4: each wallet's book is that of the bytes that last, which are those that lasted before, and more.
func (p *town) wantLasting(t testing.TB, what string) {
	t.Helper()
	for who, x := range p.world.Wallets {
		texts, n := log.Frames(x.Disk.Data[min(p.read[who], len(x.Disk.Data)):])
		for _, text := range texts {
			e, err := book.Read(text)
			if err != api.OK {
				t.Fatalf("%s: an entry of %d is none: error %d", what, who, err)
			}
			p.lasting[who], _ = book.Apply(p.lasting[who], e)
		}
		p.read[who] += n
		if p.read[who] != len(x.Disk.Data) || !book.Same(p.lasting[who], x.Book) {
			t.Fatalf("%s: what lasts of %d is not its book: %s", what, who, told(p.world))
		}
	}
}

// wantMoney is P30.3.
func (p *town) wantMoney(t testing.TB, what string) {
	t.Helper()
	for asset, n := range p.made {
		if all, ok := chain.All(p.world.Chain, asset); !ok || all != n {
			t.Fatalf("%s: there is %v of %.2x, made was %v", what, all, asset, n)
		}
	}
	for _, c := range p.world.Chain.Coins {
		if p.made[c.Asset] == (api.U{}) {
			t.Fatalf("%s: nobody has made %.2x", what, c.Asset)
		}
	}
}

// meet counts what is met with of the judge: how near to P30.6's bound a case comes, and what ends.
func (p *town) meet() {
	for _, x := range p.world.Wallets[:p.honest] {
		for _, c := range x.Book.Chans {
			of, ok := judge.Find(p.world.Chain.Judge, c.Id)
			if ok && of.Turn+2 == c.Mine+uint64(len(c.Fixed.Parts)) {
				p.met["at the bound"]++
			}
			if ok && of.Turn >= c.Mine {
				p.met["above Mine"]++
			}
			if ok && judge.Final(p.world.Chain.Judge, p.world.Chain.Now, c.Id) {
				p.met["ended"]++
			}
		}
	}
}

// P30.1 to P30.6: mixed worlds, in which somebody means ill.
func TestMixed(t *testing.T) {
	met := map[string]int{}
	for row := range 12 {
		p := newTown(t, uint64(row)+6*30, met)
		for len(p.moves) < 150 {
			p.step(t)
		}
		if got := Run(len(p.world.Wallets), p.moves); !Same(got, p.world) {
			t.Errorf("row %d: Run is %s\nwant %s", row, told(got), told(p.world))
		}
		for _, raw := range p.world.Txs {
			if _, _, err := call.Open(raw); err != api.OK {
				t.Errorf("row %d: a transaction is none: error %d", row, err)
			}
		}
		wantLasting(t, fmt.Sprint("row ", row), p.world)
	}
	for what, least := range map[string]int{
		"kind 1 error 0": 40, "kind 2 error 0": 200, "kind 2 error 26": 9, "kind 3 error 0": 80, "kind 3 error 9": 20, "kind 3 error 26": 3,
		"kind 4 error 0": 150, "kind 4 error 11": 30, "kind 5 error 0": 20, "kind 5 error 17": 4, "kind 6 error 0": 6, "kind 6 error 13": 5, "kind 6 error 16": 9,
		"kind 7 error 0": 20, "kind 7 error 23": 3, "kind 8 error 0": 20, "kind 9 error 0": 12, "above Mine": 60, "at the bound": 30, "ended": 60, "out of a risk": 2,
	} {
		if met[what] < least {
			t.Errorf("%s was met %d times", what, met[what])
		}
	}
}
