package fund

import (
	"fmt"
	"testing"

	"truce/api"
	"truce/judge"
	"truce/state"
	"truce/turn"
)

// party is some wallets' books that open a channel, and the judge, at whom others lay something down, too.
type party struct {
	seed  uint64
	fixed api.Fixed
	books []api.Book
	judge api.Judge
	l     []api.Exit
	odd   bool
	paid  map[string]int
	met   map[string]int
}

// mixedExits is an outcome of no asset up to three: mostly for each participant something, in its place.
func (p *party) mixedExits(t testing.TB) []api.Exit {
	t.Helper()
	var l []api.Exit
	for _, asset := range []string{gold, wool, rep(9, 20)} {
		e := exit(asset)
		for part := range p.fixed.Parts {
			e.Allocs = append(e.Allocs, plain(t, part, uint64(below(&p.seed, 4))))
		}
		at := below(&p.seed, len(e.Allocs))
		switch below(&p.seed, 12) {
		case 0:
			e.Allocs = e.Allocs[:at]
		case 1:
			e.Allocs = append(e.Allocs, e.Allocs[at])
		case 2:
			e.Allocs[at] = bound(t, p.fixed, 0, 1, 2)
		case 3:
			e.Allocs[at].Dest = destOf(t, 7)
		case 4:
			e.Allocs[at].Amount = api.U{0, 0, 0, 1 << 60}
		}
		if below(&p.seed, 4) > 0 {
			l = append(l, e)
		}
	}
	return l
}

// step lets something come to pass, and holds each wallet's answers against the chapter's words.
func (p *party) step(t testing.TB) {
	t.Helper()
	me := below(&p.seed, len(p.books))
	switch below(&p.seed, 8) {
	case 0, 1, 2:
		p.move(t)
	case 3, 4, 5:
		p.layDown(t, me)
	case 6:
		p.stray(t)
	case 7:
		if p.odd && below(&p.seed, 3) == 0 {
			p.books[me] = takes(t, p.books[me], enGoal(p.fixed, below(&p.seed, 2)))
		}
	}
	for _, b := range p.books {
		p.ask(t, b)
	}
}

// move lets the one whose turn it is move: in the first turn of each what all may agree on, then that it is ready. Now and then another one does not hear of it.
func (p *party) move(t testing.TB) {
	t.Helper()
	for me, b := range p.books {
		e, err := Ready(p.judge, b, state.Id(p.fixed))
		if c := chanOf(t, b, p.fixed); len(c.Kept) < len(p.fixed.Parts) {
			e, err = turn.Propose(b, state.Id(p.fixed), "d", p.l, false)
		}
		if err != api.OK {
			continue
		}
		p.books[me] = takes(t, b, e)
		p.met["moved"]++
		for other := range p.books {
			if other != me && !(p.odd && below(&p.seed, 9) == 0) {
				p.hear(t, other, e)
			}
		}
		return
	}
}

func (p *party) hear(t testing.TB, me int, e api.Entry) {
	t.Helper()
	l, err := turn.Accept(p.books[me], state.Id(p.fixed), api.Signed{Var: e.Var, Seals: []api.Seal{e.Seal}})
	if err == api.OK {
		p.books[me] = takes(t, p.books[me], l...)
	}
}

// layDown lets a wallet lay down what it will. P26.4: its own part alone, once; what is held is then never more than the outcome has.
func (p *party) layDown(t testing.TB, me int) {
	t.Helper()
	for _, tx := range Deposits(p.judge, p.books[me], state.Id(p.fixed)) {
		p.judge = laidDown(t, p.judge, tx)
		total, _ := state.Total(p.l, tx.Asset)
		if held := judge.Held(p.judge, tx.Channel, tx.Asset); bigOf(held).Cmp(bigOf(total)) > 0 {
			t.Fatalf("%d lays down too much: %s; held %v of %v", me, toldTxs([]api.Tx{tx}), held, total)
		}
		for _, e := range p.l {
			if e.Asset == tx.Asset && (e.Allocs[me].Amount != tx.Amount || e.Allocs[me].Dest != destOf(t, me)) {
				t.Fatalf("%d lays down what is not its own: %s", me, toldTxs([]api.Tx{tx}))
			}
		}
		what := fmt.Sprint(me, tx.Asset)
		p.paid[what]++
		if p.paid[what] > 1 {
			t.Fatalf("%d lays down twice: %s", me, toldTxs([]api.Tx{tx}))
		}
		p.met["laid down"]++
	}
}

// stray is what someone lays down who has no part in it: 1, or just what lacks.
func (p *party) stray(t testing.TB) {
	t.Helper()
	if !p.odd || len(p.l) == 0 {
		return
	}
	e := p.l[below(&p.seed, len(p.l))]
	n := api.U{1}
	if len(e.Allocs) > 0 && below(&p.seed, 2) == 0 {
		n = e.Allocs[below(&p.seed, len(e.Allocs))].Amount
	}
	p.judge = lays(t, p.judge, p.fixed, e.Asset, n)
}

// ask holds what a wallet answers against the chapter's words.
func (p *party) ask(t testing.TB, b api.Book) {
	t.Helper()
	c := chanOf(t, b, p.fixed)
	funded := plainFunded(p.judge, c)
	wantFunded(t, "mixed", p.judge, b, p.fixed, funded)
	p.met[fmt.Sprint("funded ", funded)]++
	l := plainDeposits(p.judge, b, c.Id)
	wantDeposits(t, "mixed", p.judge, b, p.fixed, l...)
	p.met[fmt.Sprint("deposits ", len(l))]++
	want, wantErr := plainReady(p.judge, b, c.Id)
	wantReady(t, "mixed", p.judge, b, p.fixed, want.Var, wantErr)
	p.met[fmt.Sprint("ready ", int(wantErr))]++
}

// P26.1 to P26.4: wallets that open channels, the steps in mixed order; in every other row some do not hear, leave, or lay down what is not theirs.
func TestMixed(t *testing.T) {
	met := map[string]int{}
	for row := range 36 {
		p := party{seed: uint64(row) + 26, odd: row%2 == 1, met: met, paid: map[string]int{}}
		p.fixed = channel(t, 2+row/2%3, []string{bare, yes, no}[row/6%3])
		for me := range p.fixed.Parts {
			p.books = append(p.books, bookOf(t, me, p.fixed))
		}
		p.l = p.mixedExits(t)
		for range 45 {
			p.step(t)
		}
	}
	for what, least := range map[string]int{
		"moved": 100, "laid down": 40, "funded true": 100, "funded false": 1000,
		"deposits 0": 1000, "deposits 1": 100, "deposits 2": 30, "deposits 3": 10,
		"ready 0": 30, "ready 11": 100, "ready 15": 1000,
	} {
		if met[what] < least {
			t.Errorf("%s was met %d times", what, met[what])
		}
	}
}

// P26.4: honest wallets that agree on an outcome of which each has its place lay it down in whatever order they look, and are ready.
func TestHonestOpen(t *testing.T) {
	for row := range 12 {
		p := party{seed: uint64(row) + 40, met: map[string]int{}, paid: map[string]int{}}
		p.fixed = channel(t, 2+row%3, []string{bare, yes, no}[row/3%3])
		var golds, wools []uint64
		for me := range p.fixed.Parts {
			p.books = append(p.books, bookOf(t, me, p.fixed))
			golds, wools = append(golds, uint64(below(&p.seed, 3))), append(wools, uint64(1+below(&p.seed, 5)))
		}
		p.l = append(split(t, golds...), split(t, wools...)...)
		p.l[1].Asset = wool
		for range 200 {
			if below(&p.seed, 2) == 0 {
				p.move(t)
			} else {
				p.layDown(t, below(&p.seed, len(p.books)))
			}
		}
		for me, b := range p.books {
			wantFunded(t, fmt.Sprintf("row %d, %d", row, me), p.judge, b, p.fixed, true)
			if last := plainLast(chanOf(t, b, p.fixed)); int(last.Turn) != 2*len(p.books)-1 {
				t.Errorf("row %d: %d is at turn %d", row, me, last.Turn)
			}
		}
		for _, e := range p.l {
			if total, _ := state.Total(p.l, e.Asset); judge.Held(p.judge, state.Id(p.fixed), e.Asset) != total {
				t.Errorf("row %d: held: %v", row, judge.Held(p.judge, state.Id(p.fixed), e.Asset))
			}
		}
	}
}
