package watch

import (
	"fmt"
	"slices"
	"testing"

	"truce/api"
	"truce/book"
	"truce/judge"
	"truce/state"
	"truce/turn"
)

// mixedExit is an exit of plain allocations and of some that are bound to one of the channels.
func mixedExit(t testing.TB, seed *uint64, asset string, l []api.Fixed) api.Exit {
	t.Helper()
	e := exit(asset)
	n := below(seed, 5)
	if below(seed, 9) == 0 {
		n = 8
	}
	for range n {
		if below(seed, 3) == 0 {
			e.Allocs = append(e.Allocs, bound(t, l[below(seed, len(l))], 0, 1, uint64(below(seed, 5))))
		} else {
			e.Allocs = append(e.Allocs, plain(t, below(seed, 3), uint64(below(seed, 3))))
		}
	}
	return e
}

// mixedJudge knows most of the channels: some are challenged, some have ended at the moment 5.
func mixedJudge(t testing.TB, seed *uint64, l []api.Fixed) api.Judge {
	t.Helper()
	var cases []api.Case
	for _, f := range l {
		c := known(f, uint64(below(seed, 8)), []int{0, 3, 4, 5, 6, 9}[below(seed, 6)])
		for _, asset := range []string{gold, wool, rep(9, 20)} {
			if below(seed, 3) > 0 {
				c.Exits = append(c.Exits, mixedExit(t, seed, asset, l))
			}
		}
		if below(seed, 6) > 0 {
			cases = append(cases, c)
		}
	}
	j := knows(cases...)
	for _, f := range l {
		for _, asset := range []string{gold, wool, rep(9, 20)} {
			j = lays(t, j, f, asset, uint64(below(seed, 4)))
		}
	}
	return j
}

// count puts down what a wallet does, and whether it is at risk.
func count(met map[string]int, l []api.Tx, risk bool) {
	met[fmt.Sprint("moves ", len(l))]++
	met[fmt.Sprint("risk ", risk)]++
	for _, tx := range l {
		met[fmt.Sprint("kind ", tx.Kind)]++
		met[fmt.Sprint("states ", len(tx.Proof))]++
		met[fmt.Sprint("place ", tx.Index)]++
	}
}

// wantMet fails the test unless each of these was met so often.
func wantMet(t *testing.T, met, least map[string]int) {
	t.Helper()
	for what, n := range least {
		if met[what] < n {
			t.Errorf("%s was met %d times", what, met[what])
		}
	}
}

// P27.1, P27.2: judges of all kinds, against the chapter's words. What lays a state down, or pays, they take.
func TestMixedJudges(t *testing.T) {
	seed, met := uint64(27), map[string]int{}
	l := []api.Fixed{channel(t, 2, yes), channel(t, 3, yes), numbered(t, 1), numbered(t, 2), numbered(t, 3)}
	b := bookOf(t, 0, l[:4]...)
	b = holds(t, holds(t, b, l[0], at(4), 0), l[0], at(5), 1)
	b = sealed(t, b, l[1], at(3))
	b = sealed(t, b, l[2], final(at(4)))
	books := []api.Book{b, leaves(t, leaves(t, leaves(t, leaves(t, b, l[0]), l[1]), l[2]), l[3])}
	for range 400 {
		j := mixedJudge(t, &seed, l)
		now := 5
		if below(&seed, 30) == 0 {
			now = []int{0, -1, api.MaxNow, api.MaxNow + 1}[below(&seed, 4)]
		}
		for _, b := range books {
			for _, f := range l {
				told := plainMoves(j, now, b, state.Id(f))
				wantTold(t, "mixed", j, now, b, f, told...)
				risk := plainRisk(j, now, b, state.Id(f))
				wantRisk(t, "mixed", j, now, b, f, risk)
				// A claim the judge takes only where the outcomes fit, and seals are dear to look at.
				isClaim := func(tx api.Tx) bool { return tx.Kind == api.TxClaim }
				if !slices.ContainsFunc(told, isClaim) && below(&seed, 6) == 0 {
					wantTaken(t, "mixed", j, now, b, f)
				}
				count(met, told, risk)
			}
		}
	}
	wantMet(t, met, map[string]int{
		"moves 0": 1000, "moves 1": 500, "moves 2": 200, "moves 3": 50, "risk true": 200, "risk false": 1000,
		"kind 2": 200, "kind 3": 100, "kind 4": 200, "kind 5": 500, "kind 6": 500,
		"states 1": 200, "states 2": 100, "place 1": 100, "place 2": 50, "place 3": 20, "place 7": 1,
	})
}

// game is a channel whose participants take turns. One of them, whose place is liar, lays down old states, too; the others look at the chain now and then, but often enough.
type game struct {
	seed   uint64
	fixed  api.Fixed
	books  []api.Book
	judge  api.Judge
	now    int
	liar   int
	proofs [][]api.Signed
	paid   []api.Coin
	met    map[string]int
}

func newGame(t testing.TB, seed uint64, parts int, says string, met map[string]int) *game {
	t.Helper()
	g := &game{seed: seed, fixed: channel(t, parts, says), now: 1, met: met}
	g.fixed.Time = 4 + below(&g.seed, 4)
	g.liar = below(&g.seed, parts+1)
	for me := range parts {
		g.books = append(g.books, bookOf(t, me, g.fixed))
	}
	g.judge = lays(t, g.judge, g.fixed, gold, uint64(6*parts))
	return g
}

// move lets the one whose turn it is move, and the others hear of it, and answer: 6 for each one, or as it was; seldom the end.
func (g *game) move(t testing.TB) {
	t.Helper()
	for me, b := range g.books {
		v := api.Var{Data: "d", Exits: split(t, slices.Repeat([]uint64{6}, len(g.books))...)}
		if l := chanOf(b, g.fixed).Kept; len(l) > 0 && l[len(l)-1].Var.Turn+1 >= uint64(2*len(g.books)) {
			v = l[len(l)-1].Var
			v.Data, v.Final = fmt.Sprint(below(&g.seed, 9)), v.Final || below(&g.seed, 12) == 0
		}
		if e, err := turn.Propose(b, state.Id(g.fixed), v.Data, v.Exits, v.Final); err == api.OK {
			g.note(t, me, e)
			return
		}
	}
}

// note puts down an entry of a participant's own, and brings it to the others; what they answer comes to all likewise, one behind the other.
func (g *game) note(t testing.TB, me int, e api.Entry) {
	t.Helper()
	g.books[me] = takes(t, g.books[me], e)
	for sent := []api.Entry{e}; len(sent) > 0; sent = sent[1:] {
		said := api.Signed{Var: sent[0].Var, Seals: []api.Seal{sent[0].Seal}}
		for other, b := range g.books {
			l, err := turn.Accept(b, e.Channel, said)
			if err != api.OK {
				t.Fatalf("turn %d for %d: error %d", e.Var.Turn, other, err)
			}
			g.books[other] = takes(t, b, l...)
			if more, err := turn.Answer(g.books[other], e.Channel); err == api.OK {
				g.books[other] = takes(t, g.books[other], more)
				sent = append(sent, more)
			}
		}
	}
}

func chanOf(b api.Book, f api.Fixed) api.Chan { return *plainFind(b, state.Id(f)) }

// lie lays down, or challenges by, what the liar could ever prove.
func (g *game) lie() {
	if g.liar == len(g.books) {
		return
	}
	if l := book.Best(chanOf(g.books[g.liar], g.fixed)); len(l) > 0 {
		g.proofs = append(g.proofs, l)
	}
	if len(g.proofs) == 0 {
		return
	}
	l := g.proofs[below(&g.seed, len(g.proofs))]
	if below(&g.seed, 2) == 0 {
		l = g.proofs[0]
	}
	kind := []int{api.TxChallenge, api.TxChallenge, api.TxCheckpoint}[below(&g.seed, 3)]
	next, _, err := done(g.judge, g.now, api.Tx{Kind: kind, Fixed: g.fixed, Proof: l})
	g.judge = next
	g.met[fmt.Sprintf("lie %d error %d", kind, err)]++
}

// look lets a participant look at the chain, and the chain take what it does.
func (g *game) look(t testing.TB, me int) {
	t.Helper()
	b, id := g.books[me], state.Id(g.fixed)
	risk := plainRisk(g.judge, g.now, b, id)
	wantRisk(t, "game", g.judge, g.now, b, g.fixed, risk)
	told := plainMoves(g.judge, g.now, b, id)
	wantMoves(t, "game", g.judge, g.now, b, g.fixed, told...)
	count(g.met, told, risk)
	for _, tx := range told {
		next, coins, err := done(g.judge, g.now, tx)
		if err != api.OK {
			t.Fatalf("%s: error %d", toldTxs([]api.Tx{tx}), err)
		}
		g.judge, g.paid = next, append(g.paid, coins...)
	}
	if Risk(g.judge, g.now, g.books[me], id) {
		t.Errorf("at %d: %d is left at risk, %s", g.now, me, toldCase(g.judge, id))
	}
}

// P27.3, P27.4, and what holds of the whole (T4, T5): whoever looks once in each challenge's time, and whenever something newer has come, is never left behind an older state, and is out in time; all is paid just once.
func TestGames(t *testing.T) {
	met := map[string]int{}
	for row := range 18 {
		g := newGame(t, uint64(row)+270, 2+row%3, []string{yes, bare}[row/3%2], met)
		id, leaver := state.Id(g.fixed), below(&g.seed, len(g.books))
		for ; g.now < 52; g.now++ {
			moves := !judge.Final(g.judge, g.now, id) && below(&g.seed, 3) == 0
			if moves {
				g.move(t)
			}
			g.lie()
			if g.now == 36 {
				g.books[leaver] = leaves(t, g.books[leaver], g.fixed)
			}
			for me := range g.books {
				if me != g.liar && (moves || g.now%4 == 0) {
					g.look(t, me)
				}
			}
		}
		for me := range g.books {
			if me != g.liar {
				g.look(t, me)
			}
		}
		g.wantOut(t, fmt.Sprint("row ", row), leaver)
	}
	wantMet(t, met, map[string]int{
		"kind 2": 15, "kind 3": 30, "kind 4": 3, "kind 5": 12, "risk true": 30, "risk false": 300,
		"states 1": 20, "states 2": 5, "states 3": 5, "states 4": 5, "lie 2 error 0": 30, "lie 2 error 11": 60, "lie 2 error 14": 10,
	})
}

// wantOut fails the test unless the one that leaves is out, by no older state than an honest one can prove, and what was held is paid.
func (g *game) wantOut(t *testing.T, what string, leaver int) {
	t.Helper()
	id := state.Id(g.fixed)
	c, there := judge.Find(g.judge, id)
	if !there || !judge.Final(g.judge, g.now, id) {
		if leaver != g.liar {
			t.Errorf("%s: %d is not out: %s", what, leaver, toldCase(g.judge, id))
		}
		return
	}
	for me, b := range g.books {
		l := book.Best(chanOf(b, g.fixed))
		if me != g.liar && len(l) > 0 && l[len(l)-1].Var.Turn > c.Turn {
			t.Errorf("%s: %d proves turn %d, but it ended by %d", what, me, l[len(l)-1].Var.Turn, c.Turn)
		}
	}
	if len(g.paid) != len(g.books) || len(g.judge.Holds) > 0 {
		t.Errorf("%s: paid: %v; still held: %v", what, g.paid, g.judge.Holds)
	}
	for me, coin := range g.paid {
		if want := (api.Coin{Who: whoOf(t, me), Asset: gold, Amount: api.U{6}}); coin != want {
			t.Errorf("%s: %d has %v", what, me, coin)
		}
	}
}
