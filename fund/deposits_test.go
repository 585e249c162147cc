package fund

import (
	"fmt"
	"testing"

	"truce/api"
	"truce/state"
)

// The chapter's example.
func TestExample(t *testing.T) {
	f := channel(t, 2, bare)
	first, second := sealed(t, bookOf(t, 0, f), f, with(1, split(t, 5, 3))), sealed(t, bookOf(t, 1, f), f, with(1, split(t, 5, 3)))
	wantDeposits(t, "the first one", api.Judge{}, first, f, txOf(f, gold, 0, 5))
	wantDeposits(t, "the second one, too early", api.Judge{}, second, f)
	wantDeposits(t, "the first one once more", judgeOf(t, f, 5), first, f)
	wantDeposits(t, "the second one", judgeOf(t, f, 5), second, f, txOf(f, gold, 5, 3))
	wantDeposits(t, "the second one once more", judgeOf(t, f, 8), second, f)
}

// P26.2: a channel that is not there, one that is left, and one that is not agreed on.
func TestDepositsNone(t *testing.T) {
	f, g := channel(t, 2, bare), channel(t, 2, yes)
	v := with(1, split(t, 5, 3))
	for _, b := range []api.Book{{}, bookOf(t, 0), bookOf(t, 0, g), sealed(t, bookOf(t, 0, g), g, v)} {
		wantDeposits(t, "no such channel", api.Judge{}, b, f)
		for _, id := range []string{"", "abc", rep(0, 32), state.Id(g)[1:]} {
			if l := Deposits(api.Judge{}, b, id); len(l) > 0 {
				t.Errorf("channel %x: %s", id, toldTxs(l))
			}
		}
	}
	b := bookOf(t, 0, f, g)
	wantDeposits(t, "nothing kept", api.Judge{}, b, f)
	wantDeposits(t, "one has signed", api.Judge{}, holds(t, b, f, v, 0), f)
	wantDeposits(t, "another one has signed", api.Judge{}, holds(t, b, f, v, 1), f)
	wantDeposits(t, "another channel", api.Judge{}, sealed(t, b, g, v), f)
	b = sealed(t, b, f, v)
	wantDeposits(t, "agreed", api.Judge{}, b, f, txOf(f, gold, 0, 5))
	b = takes(t, b, enGoal(f, api.GoalExit))
	wantDeposits(t, "left", api.Judge{}, b, f)
	wantDeposits(t, "stays again", api.Judge{}, takes(t, b, enGoal(f, api.GoalStay)), f, txOf(f, gold, 0, 5))
	b = takes(t, b, enGoal(f, api.GoalStay), enGoal(g, api.GoalExit))
	wantDeposits(t, "another one is left", api.Judge{}, b, f, txOf(f, gold, 0, 5))
}

// P26.2: from the turn on by which each had one, and behind the second one of each no more; of what is supported, not of what is last.
func TestDepositsTurns(t *testing.T) {
	for parts := 2; parts <= 4; parts++ {
		f := channel(t, parts, yes)
		for turn := range uint64(2*parts + 3) {
			v := with(turn, split(t, 5, 3))
			what := fmt.Sprintf("turn %d of %d", turn, parts)
			var want []api.Tx
			if int(turn) >= parts-1 && int(turn) < 2*parts-1 {
				want = append(want, txOf(f, gold, 0, 5))
			}
			b := sealed(t, bookOf(t, 0, f), f, v)
			wantDeposits(t, what, api.Judge{}, b, f, want...)
			wantDeposits(t, what+", a newer one of one", api.Judge{}, holds(t, b, f, with(turn+4, split(t, 6, 3)), 1), f, want...)
			wantDeposits(t, what+", at the end", api.Judge{}, sealed(t, bookOf(t, 0, f), f, final(v)), f, want...)
		}
	}
	f := channel(t, 3, yes)
	b := bookOf(t, 0, f)
	for turn := range uint64(5) {
		b = holds(t, b, f, with(turn, split(t, 5, 3)), int(turn)%3)
		var want []api.Tx
		if turn >= 2 {
			want = append(want, txOf(f, gold, 0, 5))
		}
		wantDeposits(t, fmt.Sprint("each its own turn, up to ", turn), api.Judge{}, b, f, want...)
	}
	wantDeposits(t, "each its own second turn", api.Judge{}, holds(t, b, f, with(5, split(t, 5, 3)), 2), f)
}

// P26.2: just the allocation of its own place, if that goes plainly to it.
func TestDepositsPlace(t *testing.T) {
	f, g := channel(t, 3, bare), channel(t, 2, yes)
	self := api.Alloc{Dest: destOf(t, 1), Amount: api.U{4}, Kind: api.PayBound, Left: destOf(t, 0), Right: destOf(t, 1)}
	long := exit(gold, plain(t, 0, 2), plain(t, 1, 4), plain(t, 2, 1), plain(t, 1, 6), plain(t, 0, 7))
	for what, c := range map[string]struct {
		e    api.Exit
		want uint64
	}{
		"its own":                    {exit(gold, plain(t, 0, 2), plain(t, 1, 4), plain(t, 2, 1)), 4},
		"its own, the last one":      {exit(gold, plain(t, 0, 2), plain(t, 1, 4)), 4},
		"its own, behind it, too":    {long, 4},
		"behind another one's twice": {exit(gold, plain(t, 2, 2), plain(t, 1, 4)), 4},
		"behind what is bound":       {exit(gold, bound(t, g, 0, 1, 2), plain(t, 1, 4)), 4},
		"behind its own":             {exit(gold, plain(t, 1, 2), plain(t, 1, 4)), 4},
		"1":                          {exit(gold, plain(t, 0, 2), plain(t, 1, 1)), 1},
		"nothing of its own":         {exit(gold, plain(t, 0, 2), plain(t, 1, 0), plain(t, 2, 1)), 0},
		"no allocation":              {exit(gold), 0},
		"too few allocations":        {exit(gold, plain(t, 1, 2)), 0},
		"another one's":              {exit(gold, plain(t, 0, 2), plain(t, 2, 4), plain(t, 1, 1)), 0},
		"a stranger's":               {exit(gold, plain(t, 0, 2), plain(t, 7, 4)), 0},
		"bound":                      {exit(gold, plain(t, 0, 2), bound(t, g, 0, 1, 4)), 0},
		"bound to itself":            {exit(gold, plain(t, 0, 2), self), 0},
		"its address elsewhere":      {exit(gold, plain(t, 0, 2), api.Alloc{Dest: whoOf(t, 1) + rep(0, 12), Amount: api.U{4}}), 0},
	} {
		b := sealed(t, bookOf(t, 1, f), f, with(2, []api.Exit{c.e}))
		for held := range uint64(8) {
			var want []api.Tx
			if c.want > 0 && held == 2 {
				want = append(want, txOf(f, gold, 2, c.want))
			}
			wantDeposits(t, fmt.Sprintf("%s, %d held", what, held), judgeOf(t, f, held), b, f, want...)
		}
	}
}

// P26.2: of each participant just as much is held as those ahead of it have.
func TestDepositsInTurn(t *testing.T) {
	f := channel(t, 4, yes)
	amounts := []uint64{2, 3, 0, 4}
	for me, n := range amounts {
		b := sealed(t, bookOf(t, me, f), f, with(3, split(t, amounts...)))
		for held := range uint64(11) {
			var want []api.Tx
			if n > 0 && held == []uint64{0, 2, 5, 5}[me] {
				want = append(want, txOf(f, gold, held, n))
			}
			wantDeposits(t, fmt.Sprintf("%d, %d held", me, held), judgeOf(t, f, held), b, f, want...)
		}
	}
}

// P26.2: exits go by themselves, in their order; what is held of one asset, or for another channel, is nothing to another.
func TestDepositsExits(t *testing.T) {
	f, g := channel(t, 2, bare), channel(t, 2, yes)
	last := rep(9, 20)
	l := []api.Exit{exit(gold, plain(t, 0, 5), plain(t, 1, 3)), exit(wool, plain(t, 0, 1), plain(t, 1, 2)), exit(last, plain(t, 0, 0), plain(t, 1, 9))}
	first, second := sealed(t, bookOf(t, 0, f), f, with(2, l)), sealed(t, bookOf(t, 1, f), f, with(2, l))
	other := lays(t, lays(t, api.Judge{}, g, gold, api.U{5}), g, last, api.U{1})
	for _, j := range []api.Judge{{}, other} {
		wantDeposits(t, "the first one", j, first, f, txOf(f, gold, 0, 5), txOf(f, wool, 0, 1))
		wantDeposits(t, "the second one", j, second, f, txOf(f, last, 0, 9))
		j = lays(t, j, f, wool, api.U{1})
		wantDeposits(t, "the first one, the second asset held", j, first, f, txOf(f, gold, 0, 5))
		wantDeposits(t, "the second one, the second asset held", j, second, f, txOf(f, wool, 1, 2), txOf(f, last, 0, 9))
		j = lays(t, j, f, gold, api.U{5})
		wantDeposits(t, "the first one, both held", j, first, f)
		wantDeposits(t, "the second one, both held", j, second, f, txOf(f, gold, 5, 3), txOf(f, wool, 1, 2), txOf(f, last, 0, 9))
		j = lays(t, lays(t, j, f, wool, api.U{1}), f, last, api.U{9})
		wantDeposits(t, "the second one, too much of the second asset, all of the last", j, second, f, txOf(f, gold, 5, 3))
	}
}

// P26.2: numbers of all parts, and sums that carry.
func TestDepositsHigh(t *testing.T) {
	f := channel(t, 3, bare)
	high, rest := api.U{top, top, top, 1<<63 - 1}, api.U{top - 1, top, top, 1<<63 - 1}
	l := []api.Exit{exit(gold, api.Alloc{Dest: destOf(t, 0), Amount: high}, plain(t, 1, 1), api.Alloc{Dest: destOf(t, 2), Amount: rest})}
	var books []api.Book
	for me := range 3 {
		books = append(books, sealed(t, bookOf(t, me, f), f, with(2, l)))
	}
	half := api.U{0, 0, 0, 1 << 63}
	wantDeposits(t, "the first", api.Judge{}, books[0], f, api.Tx{Kind: api.TxDeposit, Channel: state.Id(f), Asset: gold, Amount: high})
	j := lays(t, api.Judge{}, f, gold, high)
	wantDeposits(t, "the second", j, books[1], f, api.Tx{Kind: api.TxDeposit, Channel: state.Id(f), Asset: gold, Expect: high, Amount: api.U{1}})
	wantDeposits(t, "the third, too early", j, books[2], f)
	j = lays(t, j, f, gold, api.U{1})
	wantDeposits(t, "the third", j, books[2], f, api.Tx{Kind: api.TxDeposit, Channel: state.Id(f), Asset: gold, Expect: half, Amount: rest})
	for _, low := range []api.U{{}, {0, 1 << 63}, {0, 0, 0, 1<<63 - 1}, {1, 0, 0, 1 << 63}} {
		wantDeposits(t, "the third, of another number", lays(t, api.Judge{}, f, gold, low), books[2], f)
	}
}

// P26.2, P26.4: one behind the other lays down what the judge takes, by a transaction that can be written; none does so ahead of its time, or twice.
func TestDepositsAreTaken(t *testing.T) {
	f := channel(t, 4, bare)
	l := []api.Exit{exit(gold, plain(t, 0, 5), plain(t, 1, 3), plain(t, 2, 1), plain(t, 3, 2)), exit(wool, plain(t, 0, 7), plain(t, 1, 4), plain(t, 2, 8), plain(t, 3, 6))}
	var books []api.Book
	for me := range 4 {
		books = append(books, sealed(t, bookOf(t, me, f), f, with(3, l)))
	}
	j, golds, wools := api.Judge{}, uint64(0), uint64(0)
	for next, b := range books {
		for me, of := range books {
			if me != next {
				wantDeposits(t, fmt.Sprintf("%d, whose time is not come, but that of %d", me, next), j, of, f)
			}
		}
		wantFunded(t, fmt.Sprint("ahead of ", next), j, b, f, false)
		mine, more := l[0].Allocs[next].Amount[0], l[1].Allocs[next].Amount[0]
		wantDeposits(t, fmt.Sprint(next), j, b, f, txOf(f, gold, golds, mine), txOf(f, wool, wools, more))
		for _, tx := range Deposits(j, b, state.Id(f)) {
			j = laidDown(t, j, tx)
		}
		golds, wools = golds+mine, wools+more
	}
	for me, b := range books {
		wantDeposits(t, fmt.Sprint("all is laid down, ", me), j, b, f)
		wantFunded(t, fmt.Sprint("all is laid down, ", me), j, b, f, true)
	}
}
