package gen

import (
	"fmt"
	"math"
	"testing"

	"truce/acct"
	"truce/api"
	"truce/book"
	"truce/call"
	"truce/chain"
	"truce/judge"
	"truce/state"
	"truce/world"
)

// toldChan is a channel as a wallet keeps it, in the words of chapter 32's kept.
func toldChan(c api.Chan) string {
	out := fmt.Sprint("mine ", c.Mine, " kept")
	for _, k := range c.Kept {
		out += fmt.Sprint(" ", k.Var.Turn)
	}
	best := "none"
	if l := book.Best(c); len(l) > 0 {
		best = fmt.Sprint(l[len(l)-1].Var.Turn)
	}
	return out + " best " + best
}

// coins is how much a wallet has of the channel's asset, and of that of fees.
func coins(t testing.TB, w api.World, place int) string {
	t.Helper()
	who := whoOf(t, place)
	return fmt.Sprint(acct.Get(w.Chain.Coins, who, gold)[0], " ", acct.Get(w.Chain.Coins, who, fee)[0])
}

// P31.5: DOC.md's examples 2 and 10.
func TestDocExamples(t *testing.T) {
	for _, c := range []struct {
		seed  uint64
		turns int
		coins []string
		place int
		kept  string
	}{
		{7, 1, []string{"20 47", "20 49"}, 0, "mine 6 kept 3 4 5 best 5"},
		{0, 0, []string{"20 47", "20 49"}, 0, "mine 5 kept 2 3 4 best 4"},
		{4, 2, []string{"20 47", "20 49"}, 1, "mine 7 kept 4 5 6 best 6"},
	} {
		f, _ := Channel(c.seed)
		w := world.Run(2, Honest(c.seed, c.turns))
		for place, want := range c.coins {
			if got := coins(t, w, place); got != want {
				t.Errorf("honest %d %d: coins %d are %s, want %s", c.seed, c.turns, place, got, want)
			}
		}
		found, _ := book.Find(w.Wallets[c.place].Book, state.Id(f))
		if got := toldChan(found); got != c.kept {
			t.Errorf("honest %d %d: kept %d %s, want %s", c.seed, c.turns, c.place, got, c.kept)
		}
	}
}

// played is a world behind a seed's moves. None has an error, but for turn 2 of a channel of nothing, which is funded as it is agreed on: there the first wallet's look has said turn 2 already.
func played(t testing.TB, seed uint64, turns int) api.World {
	t.Helper()
	_, l := Channel(seed)
	nothing := l[0].Allocs[0].Amount == api.U{} && l[0].Allocs[1].Amount == api.U{}
	w := world.New(2)
	moves := 0
	for i, m := range Honest(seed, turns) {
		next, err := world.Step(w, m)
		want := api.OK
		if m.Act.Kind == api.AcMove {
			if nothing && moves == 2 {
				want = api.ErrTurn
			}
			moves++
		}
		if err != want {
			t.Errorf("seed %d, %d turns, move %d of kind %d, %d: error %d, want %d", seed, turns, i, m.Kind, m.Act.Kind, err, want)
		}
		w = next
	}
	return w
}

// wantClosed holds a world behind a seed's moves to what the chapter says of it.
func wantClosed(t testing.TB, seed uint64, turns int) {
	t.Helper()
	f, l := Channel(seed)
	w, id, name := played(t, seed, turns), state.Id(f), fmt.Sprintf("seed %d, %d turns", seed, turns)
	paid := make([]int, 2)
	for i, raw := range w.Txs {
		_, who, err := call.Open(raw)
		if err != api.OK {
			t.Errorf("%s: transaction %d: error %d", name, i, err)
		}
		for place := range paid {
			if who == whoOf(t, place) {
				paid[place]++
			}
		}
	}
	for place, n := range paid {
		if got, want := coins(t, w, place), fmt.Sprint("20 ", 50-n); got != want {
			t.Errorf("%s: coins %d are %s, want %s", name, place, got, want)
		}
	}
	if all, ok := chain.All(w.Chain, gold); len(w.Chain.Judge.Holds) != 0 || !ok || all != (api.U{40}) {
		t.Errorf("%s: %d holds, %v in all", name, len(w.Chain.Judge.Holds), all)
	}
	last := uint64(4 + max(0, min(turns, 20)))
	known, ok := judge.Find(w.Chain.Judge, id)
	if !ok || known.Turn != last || !judge.Final(w.Chain.Judge, w.Chain.Now, id) {
		t.Errorf("%s: the judge knows turn %d, %t", name, known.Turn, ok)
	}
	// All that was sent has come, and was taken, in its order.
	posts, takes := 0, 0
	for _, m := range Honest(seed, turns) {
		if m.Kind == api.MvPost && m.N == posts {
			posts++
		}
		if m.Kind == api.MvTake && m.N == takes {
			takes++
		}
	}
	if posts != len(w.Posts) || takes != len(w.Txs) {
		t.Errorf("%s: %d of %d letters, %d of %d transactions", name, posts, len(w.Posts), takes, len(w.Txs))
	}
	for place, x := range w.Wallets {
		c, _ := book.Find(x.Book, id)
		n := len(c.Kept) - 1
		if n < 0 || c.Mine != last+1 {
			t.Fatalf("%s: kept %d %s", name, place, toldChan(c))
		}
		want := api.Var{Turn: last, Final: true, Data: "d", Exits: l}
		if k := c.Kept[n]; spelled(k.Var) != spelled(want) || !k.Has[0] || !k.Has[1] {
			t.Errorf("%s: kept %d %s", name, place, toldChan(c))
		}
	}
}

// P31.5: behind Honest's moves each wallet has its 20 again, and the judge holds nothing: channels of each kind, and mixed ones.
func TestClosed(t *testing.T) {
	for _, seed := range []uint64{0, 1, 390, 424, 9, 105, 441, 636, math.MaxUint64} {
		for _, turns := range []int{-1, 0, 1, 2} {
			t.Run(fmt.Sprint(seed, " ", turns), func(t *testing.T) {
				t.Parallel()
				wantClosed(t, seed, turns)
			})
		}
	}
	row := uint64(5)
	for i := range 12 {
		seed, turns := mix(&row), i*2-1
		t.Run(fmt.Sprint(seed, " ", turns), func(t *testing.T) {
			t.Parallel()
			wantClosed(t, seed, turns)
		})
	}
	for _, seed := range []uint64{1, 636} {
		t.Run(fmt.Sprint(seed, " most"), func(t *testing.T) {
			t.Parallel()
			wantClosed(t, seed, math.MaxInt)
		})
	}
}
