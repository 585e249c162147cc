package turn

import (
	"fmt"
	"testing"

	"truce/api"
	"truce/state"
)

// answers fails the test unless a wallet answers as the chapter's words say; whether it signs.
func answers(t testing.TB, what string, b api.Book, f api.Fixed) bool {
	t.Helper()
	before := spelled(b)
	got, err := Answer(b, state.Id(f))
	want, wantErr := plainAnswer(t, b, state.Id(f))
	wantEntry(t, what, got, err, want, wantErr)
	if spelled(b) != before {
		t.Errorf("%s: the book was changed", what)
	}
	if err == api.OK {
		wantEntry(t, what+", once more", api.Entry{}, api.ErrNone, api.Entry{}, answerErr(takes(t, b, got), f))
	}
	return err == api.OK
}

func answerErr(b api.Book, f api.Fixed) api.Errno {
	_, err := Answer(b, state.Id(f))
	return err
}

// wantSigned fails the test unless a wallet signs this state by itself.
func wantSigned(t testing.TB, what string, b api.Book, f api.Fixed, v api.Var) {
	t.Helper()
	answers(t, what, b, f)
	got, err := Answer(b, state.Id(f))
	wantEntry(t, what, got, err, enMine(t, f, v, placeOf(t, b.Who)), api.OK)
}

// wantSilent fails the test unless a wallet signs nothing by itself.
func wantSilent(t testing.TB, what string, b api.Book, f api.Fixed) {
	t.Helper()
	if answers(t, what, b, f) {
		t.Errorf("%s: it signs", what)
	}
}

// P25.4: a channel that is not there, or of which nothing is kept.
func TestAnswerNone(t *testing.T) {
	f, g := channel(t, 2, bare), numbered(t, 2, bare, 8)
	for _, b := range []api.Book{{}, bookOf(t, 0), bookOf(t, 0, g), bookOf(t, 1, g), holds(t, bookOf(t, 0, g), g, at(9), 1)} {
		wantSilent(t, "no such channel", b, f)
		for _, id := range []string{"", "abc", rep(0, 32), state.Id(f)[1:]} {
			if e, err := Answer(b, id); err != api.ErrNone || spelled(e) != spelled(api.Entry{}) {
				t.Errorf("channel %x: error %d", id, err)
			}
		}
	}
	wantSilent(t, "nothing kept", bookOf(t, 0, f), f)
}

// P25.4: a state behind the first turns, that lacks its seal; whoever moved it.
func TestAnswerTurns(t *testing.T) {
	for parts := 2; parts <= 4; parts++ {
		f := channel(t, parts, bare)
		for me := range parts {
			they := (me + 1) % parts
			for turn := range uint64(2*parts + 3) {
				what := fmt.Sprintf("turn %d of %d for %d", turn, parts, me)
				for _, v := range []api.Var{at(turn), final(at(turn))} {
					b := holds(t, bookOf(t, me, f), f, v, they)
					if turn < uint64(2*parts) {
						wantSilent(t, what, b, f)
					} else {
						wantSigned(t, what, b, f, v)
					}
					wantSilent(t, what+", signed already", holds(t, b, f, v, me), f)
				}
			}
		}
	}
}

// P25.4: what is final is signed whatever the rule, and whatever is its own of it; what is not, where there is no rule alone.
func TestAnswerRule(t *testing.T) {
	for _, says := range []string{bare, yes, no} {
		f := channel(t, 2, says)
		b := holds(t, bookOf(t, 0, f), f, with(4, split(t, 5, 6)), 0, 1)
		wantSigned(t, "the end", holds(t, b, f, final(with(5, split(t, 5, 6))), 1), f, final(with(5, split(t, 5, 6))))
		wantSigned(t, "an end that takes all", holds(t, b, f, final(with(5, split(t, 0, 11))), 1), f, final(with(5, split(t, 0, 11))))
		wantSigned(t, "an end of nothing", holds(t, b, f, final(at(5)), 1), f, final(at(5)))
		for _, l := range [][]api.Exit{split(t, 5, 6), split(t, 6, 5)} {
			next := holds(t, b, f, with(5, l), 1)
			if says == bare {
				wantSigned(t, "no end", next, f, with(5, l))
			} else {
				wantSilent(t, "no end by "+says, next, f)
			}
		}
	}
}

// P25.4, P25.6: at least as much of each asset of both as of what is supported.
func TestAnswerWorth(t *testing.T) {
	f := channel(t, 2, bare)
	two := func(a, b uint64) []api.Exit {
		return []api.Exit{exit(gold, plain(t, 0, a)), exit(wool, plain(t, 0, b))}
	}
	for what, c := range map[string]struct {
		best, last []api.Exit
		signs      bool
	}{
		"as much":                     {split(t, 5, 6), split(t, 5, 6), true},
		"as much, laid elsewhere":     {split(t, 5, 6), []api.Exit{exit(gold, plain(t, 1, 6), plain(t, 0, 2), plain(t, 0, 3))}, true},
		"more":                        {split(t, 5, 6), split(t, 6, 5), true},
		"less":                        {split(t, 5, 6), split(t, 4, 7), false},
		"nothing":                     {split(t, 5, 6), split(t, 0, 11), false},
		"far more":                    {split(t, 5, 6), []api.Exit{exit(gold, api.Alloc{Dest: destOf(t, 0), Amount: api.U{0, 0, 0, 1}})}, true},
		"far less":                    {[]api.Exit{exit(gold, api.Alloc{Dest: destOf(t, 0), Amount: api.U{0, 0, 0, 1}})}, split(t, 5, 6), false},
		"nothing of nothing":          {nil, nil, true},
		"something of nothing":        {nil, split(t, 5, 6), true},
		"nothing of another's":        {split(t, 0, 6), nil, true},
		"no exit any more":            {split(t, 5, 6), nil, false},
		"another asset":               {split(t, 5, 6), []api.Exit{exit(wool, plain(t, 0, 50))}, false},
		"another asset more":          {split(t, 5, 6), two(5, 1), true},
		"as much of two":              {two(5, 6), two(5, 6), true},
		"more of both":                {two(5, 6), two(6, 7), true},
		"less of the first one":       {two(5, 6), two(4, 20), false},
		"less of the second one":      {two(5, 6), two(20, 5), false},
		"the second one is gone":      {two(5, 6), split(t, 11), false},
		"the second one was nothing":  {two(5, 0), split(t, 5), true},
		"another one's of the second": {[]api.Exit{exit(gold, plain(t, 0, 5)), exit(wool, plain(t, 1, 6))}, split(t, 5), true},
	} {
		b := holds(t, bookOf(t, 0, f), f, with(4, c.best), 0, 1)
		b = holds(t, b, f, with(5, c.last), 1)
		if c.signs {
			wantSigned(t, what, b, f, with(5, c.last))
		} else {
			wantSilent(t, what, b, f)
		}
		alone := holds(t, bookOf(t, 0, f), f, with(5, c.last), 1)
		wantSigned(t, what+", nothing being supported", alone, f, with(5, c.last))
		unsigned := holds(t, bookOf(t, 0, f), f, with(4, c.best), 1)
		unsigned = holds(t, unsigned, f, with(5, c.last), 1)
		wantSigned(t, what+", nothing being signed", unsigned, f, with(5, c.last))
	}
}

// P25.4: what is supported is what counts, and the last state alone is answered.
func TestAnswerLast(t *testing.T) {
	f := channel(t, 2, bare)
	b := holds(t, bookOf(t, 0, f), f, with(4, split(t, 5, 6)), 0, 1)
	b = holds(t, b, f, with(5, split(t, 8, 3)), 1)
	wantSilent(t, "less than was supported, behind one that is not", holds(t, b, f, with(6, split(t, 4, 7)), 1), f)
	wantSigned(t, "as much as was supported, behind one that is not", holds(t, b, f, with(6, split(t, 5, 6)), 1), f, with(6, split(t, 5, 6)))
	wantSilent(t, "behind one of its own", holds(t, b, f, with(6, split(t, 5, 6)), 0), f)
	newer := holds(t, b, f, with(5, split(t, 8, 3)), 0)
	wantSilent(t, "less than is supported now", holds(t, newer, f, with(6, split(t, 7, 4)), 1), f)
	wantSigned(t, "as much as is supported now", holds(t, newer, f, with(6, split(t, 8, 3)), 1), f, with(6, split(t, 8, 3)))
}

// P25.4: what is bound counts as its share, by the book's other channels.
func TestAnswerBound(t *testing.T) {
	f, inner := channel(t, 2, bare), numbered(t, 2, yes, 8)
	opened := []api.Exit{exit(gold, plain(t, 0, 3), plain(t, 1, 2), bound(t, inner, 0, 1, 6))}
	for me := range 2 {
		b := holds(t, bookOf(t, me, f, inner), f, with(4, split(t, 5, 6)), 0, 1)
		b = holds(t, b, f, with(5, opened), 1-me)
		wantSilent(t, "bound to a channel of which nothing is kept", b, f)
		for first := range uint64(7) {
			next := holds(t, b, inner, with(4, split(t, first, 6-first)), 0, 1)
			own := []uint64{3 + first, 2 + 6 - first}[me]
			what := fmt.Sprintf("bound, %d of 6 for the first one, for %d", first, me)
			if own >= []uint64{5, 6}[me] {
				wantSigned(t, what, next, f, with(5, opened))
			} else {
				wantSilent(t, what, next, f)
			}
		}
		// Back again: what was bound goes to both by what the other channel says at last.
		b = holds(t, bookOf(t, me, f, inner), inner, with(4, split(t, 4, 2)), 0, 1)
		b = holds(t, b, f, with(5, opened), 0, 1)
		for first := range uint64(12) {
			closed := with(6, split(t, first, 11-first))
			next := holds(t, b, f, closed, 1-me)
			what := fmt.Sprintf("closed, %d of 11 for the first one, for %d", first, me)
			if own := []uint64{first, 11 - first}[me]; own >= []uint64{7, 4}[me] {
				wantSigned(t, what, next, f, closed)
			} else {
				wantSilent(t, what, next, f)
			}
		}
	}
}

// P25.4: no turn that the wallet may have signed already: a book that tells so has its state, so that this asks one that is not told.
func TestAnswerMine(t *testing.T) {
	f := channel(t, 2, bare)
	b := holds(t, bookOf(t, 0, f), f, at(7), 1)
	for mine, want := range map[uint64]api.Errno{0: api.OK, 6: api.OK, 7: api.OK, 8: api.ErrNone, top: api.ErrNone} {
		b.Chans[0].Mine = mine
		if _, err := Answer(b, state.Id(f)); err != want {
			t.Errorf("mine %d: error %d", mine, err)
		}
	}
}
