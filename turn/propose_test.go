package turn

import (
	"fmt"
	"testing"

	"truce/api"
	"truce/state"
)

// proposes fails the test unless a wallet proposes as the chapter's words say; its answer.
func proposes(t testing.TB, what string, b api.Book, f api.Fixed, v api.Var) (api.Entry, api.Errno) {
	t.Helper()
	before := spelled(b)
	got, err := Propose(b, state.Id(f), v.Data, v.Exits, v.Final)
	want, wantErr := plainPropose(t, b, state.Id(f), v.Data, v.Exits, v.Final)
	wantEntry(t, what, got, err, want, wantErr)
	if spelled(b) != before {
		t.Errorf("%s: the book was changed", what)
	}
	if err == api.OK {
		takes(t, b, got)
	}
	return got, err
}

// wantPropose fails the test unless a proposal of a state, whose turn must come out, is signed so, or has this error.
func wantPropose(t testing.TB, what string, b api.Book, f api.Fixed, v api.Var, err api.Errno) {
	t.Helper()
	var want api.Entry
	if err == api.OK {
		want = enMine(t, f, v, placeOf(t, b.Who))
	}
	got, gotErr := proposes(t, what, b, f, v)
	wantEntry(t, what, got, gotErr, want, err)
}

// The chapter's example.
func TestExample(t *testing.T) {
	f := channel(t, 2, yes)
	first, second := bookOf(t, 0, f), bookOf(t, 1, f)
	e, err := Propose(first, state.Id(f), "d", nil, false)
	wantEntry(t, "the first one's turn", e, err, enMine(t, f, at(0), 0), api.OK)
	l, err := Accept(second, state.Id(f), api.Signed{Var: e.Var, Seals: []api.Seal{e.Seal}})
	wantEntries(t, "the second one's", l, err, []api.Entry{enSeen(t, f, at(0), 0)}, api.OK)
	second = takes(t, second, l...)
	e, err = Propose(second, state.Id(f), "d", nil, false)
	wantEntry(t, "the second one's turn", e, err, enMine(t, f, at(1), 1), api.OK)
}

// P25.2: a channel that is not there, ahead of all else.
func TestProposeNone(t *testing.T) {
	f, g := channel(t, 2, yes), numbered(t, 2, yes, 8)
	for _, b := range []api.Book{{}, bookOf(t, 0), bookOf(t, 0, g), bookOf(t, 1, g)} {
		for _, v := range []api.Var{at(0), final(at(0)), {Data: rep(1, 257)}} {
			wantPropose(t, "no such channel", b, f, v, api.ErrNone)
		}
		for _, id := range []string{"", "abc", rep(0, 32), state.Id(f) + "\x00", state.Id(f)[1:]} {
			if e, err := Propose(b, id, "d", nil, false); err != api.ErrNone || spelled(e) != spelled(api.Entry{}) {
				t.Errorf("channel %x: error %d", id, err)
			}
		}
	}
}

// P25.2: a state that is not fit, ahead of whose turn it is.
func TestProposeForm(t *testing.T) {
	f := channel(t, 2, yes)
	over := []api.Exit{exit(gold, api.Alloc{Dest: destOf(t, 0), Amount: all}, plain(t, 1, 1))}
	nine := exit(gold)
	for range 9 {
		nine.Allocs = append(nine.Allocs, plain(t, 0, 1))
	}
	for me := range 2 {
		b := bookOf(t, me, f)
		for what, v := range map[string]api.Var{
			"data":           {Data: rep(1, 257)},
			"final and data": {Data: rep(1, 257), Final: true},
			"amounts":        {Exits: over},
			"assets":         {Exits: []api.Exit{exit(wool), exit(gold)}},
			"no asset":       {Exits: []api.Exit{{}}},
			"exits":          {Exits: []api.Exit{exit(rep(1, 20)), exit(rep(2, 20)), exit(rep(3, 20)), exit(rep(4, 20))}},
			"allocations":    {Exits: []api.Exit{nine}},
			"a destination":  {Exits: []api.Exit{exit(gold, api.Alloc{Dest: whoOf(t, 0)})}},
			"a kind":         {Exits: []api.Exit{exit(gold, api.Alloc{Dest: destOf(t, 0), Kind: -1})}},
		} {
			wantPropose(t, what, b, f, v, api.ErrForm)
			wantPropose(t, what+", later", holds(t, b, f, at(7), 0, 1), f, v, api.ErrForm)
		}
	}
	wantPropose(t, "as much data as can be", bookOf(t, 0, f), f, api.Var{Data: rep(1, 256)}, api.OK)
}

// P25.2: the last turn that there is; behind it nothing is fit.
func TestProposeLastTurn(t *testing.T) {
	f := channel(t, 2, yes)
	b := holds(t, bookOf(t, 0, f), f, at(api.MaxTurn-1), 1)
	wantPropose(t, "the last turn", b, f, at(api.MaxTurn), api.OK)
	for me := range 2 {
		b = holds(t, bookOf(t, me, f), f, at(api.MaxTurn), 0, 1)
		wantPropose(t, "behind the last turn", b, f, at(0), api.ErrForm)
	}
}

// P25.2: whose turn it is, ahead of what may come.
func TestProposeTurn(t *testing.T) {
	for parts := 2; parts <= 4; parts++ {
		for _, says := range []string{bare, yes, no} {
			f := channel(t, parts, says)
			for me := range parts {
				b := bookOf(t, me, f)
				wantOwn(t, b, f, 0)
				for turn := range uint64(2*parts - 1) {
					wantOwn(t, holds(t, b, f, at(turn), 0), f, turn+1)
				}
			}
		}
	}
}

// wantOwn fails the test unless the next turn, of the first ones, is taken by the one whose it is alone.
func wantOwn(t testing.TB, b api.Book, f api.Fixed, turn uint64) {
	t.Helper()
	parts := uint64(len(f.Parts))
	what := fmt.Sprintf("turn %d of %d by %d", turn, parts, placeOf(t, b.Who))
	if turn%parts != uint64(placeOf(t, b.Who)) {
		wantPropose(t, what, b, f, at(turn), api.ErrTurn)
		wantPropose(t, what+", final", b, f, final(at(turn)), api.ErrTurn)
		wantPropose(t, what+", other data", b, f, other(turn), api.ErrTurn)
		return
	}
	wantPropose(t, what, b, f, at(turn), api.OK)
	wantPropose(t, what+", final", b, f, final(at(turn)), api.ErrRule)
	if turn > 0 {
		wantPropose(t, what+", other data", b, f, other(turn), api.ErrRule)
	}
}

// P25.2: the last state is the kept one of the highest turn, in whatever order they came, whether or not it is supported.
func TestProposeBehindTheHighest(t *testing.T) {
	f := channel(t, 2, yes)
	b := holds(t, bookOf(t, 0, f), f, at(7), 1)
	wantPropose(t, "behind one alone", b, f, other(8), api.OK)
	b = holds(t, b, f, at(5), 1)
	b = holds(t, b, f, at(6), 0)
	wantPropose(t, "behind three", b, f, other(8), api.OK)
	b = holds(t, b, f, at(8), 1)
	wantPropose(t, "behind one that is its own turn", b, f, at(9), api.ErrTurn)
	b = holds(t, bookOf(t, 1, f), f, at(8), 1)
	wantPropose(t, "behind its own of another's turn", b, f, other(9), api.OK)
}

// P25.2: no turn that the wallet may have signed already: a book that tells so has its state, so that this asks one that is not told.
func TestProposeMine(t *testing.T) {
	f := channel(t, 2, yes)
	b := holds(t, bookOf(t, 0, f), f, at(7), 1)
	for mine, want := range map[uint64]api.Errno{0: api.OK, 7: api.OK, 8: api.OK, 9: api.ErrTurn, top: api.ErrTurn} {
		b.Chans[0].Mine = mine
		if _, err := Propose(b, state.Id(f), "d", nil, false); err != want {
			t.Errorf("mine %d: error %d", mine, err)
		}
	}
}

// P25.2: what may come behind a state, by a rule, without one for all, and at the end.
func TestProposeMay(t *testing.T) {
	gave, took := split(t, 5, 6), split(t, 6, 5)
	same := []api.Exit{exit(gold, plain(t, 0, 11))}
	more := []api.Exit{exit(gold, plain(t, 0, 5), plain(t, 1, 6)), exit(wool, plain(t, 0, 0))}
	tied := []api.Exit{exit(gold, plain(t, 1, 1), bound(t, channel(t, 3, bare), 0, 1, 10))}
	for what, c := range map[string]struct {
		last, next       []api.Exit
		byYes, byNo, all api.Errno
		ended            api.Errno
	}{
		"the same":                 {gave, gave, api.OK, api.ErrRule, api.OK, api.OK},
		"given":                    {gave, took, api.OK, api.ErrRule, api.OK, api.ErrRule},
		"put together":             {gave, same, api.OK, api.ErrRule, api.OK, api.ErrRule},
		"bound":                    {gave, tied, api.OK, api.ErrRule, api.OK, api.ErrRule},
		"an asset of which 0 are":  {gave, more, api.OK, api.ErrRule, api.OK, api.ErrRule},
		"an asset of which 0 were": {more, took, api.OK, api.ErrRule, api.OK, api.ErrRule},
		"one more":                 {gave, split(t, 5, 7), api.ErrRule, api.ErrRule, api.ErrRule, api.ErrRule},
		"one less":                 {gave, split(t, 5, 5), api.ErrRule, api.ErrRule, api.ErrRule, api.ErrRule},
		"far more":                 {gave, []api.Exit{exit(gold, api.Alloc{Dest: destOf(t, 0), Amount: api.U{11, 0, 0, 1}})}, api.ErrRule, api.ErrRule, api.ErrRule, api.ErrRule},
		"nothing any more":         {gave, nil, api.ErrRule, api.ErrRule, api.ErrRule, api.ErrRule},
		"something of nothing":     {nil, gave, api.ErrRule, api.ErrRule, api.ErrRule, api.ErrRule},
		"nothing of nothing":       {nil, nil, api.OK, api.ErrRule, api.OK, api.OK},
		"another asset":            {gave, []api.Exit{exit(wool, plain(t, 0, 5), plain(t, 1, 6))}, api.ErrRule, api.ErrRule, api.ErrRule, api.ErrRule},
		"another asset more":       {gave, append(split(t, 5, 6), exit(wool, plain(t, 0, 1))), api.ErrRule, api.ErrRule, api.ErrRule, api.ErrRule},
	} {
		for says, want := range map[string]api.Errno{yes: c.byYes, no: c.byNo, bare: c.all} {
			f := channel(t, 2, says)
			b := holds(t, bookOf(t, 0, f), f, with(7, c.last), 1)
			wantPropose(t, what+" by "+says, b, f, api.Var{Turn: 8, Data: "e", Exits: c.next}, want)
			wantPropose(t, what+" at the end by "+says, b, f, final(with(8, c.next)), c.ended)
			b = holds(t, bookOf(t, 0, f), f, final(with(7, c.last)), 1)
			wantPropose(t, what+" behind the end by "+says, b, f, with(8, c.next), api.ErrFinal)
			wantPropose(t, what+" once more at the end by "+says, b, f, final(with(8, c.next)), c.ended)
		}
	}
}

// P25.2: without a rule nothing but what stays may come in the first turns, and what all may agree to from the first one behind them on.
func TestProposeForAllEdge(t *testing.T) {
	for parts := 2; parts <= 4; parts++ {
		f := channel(t, parts, bare)
		edge := uint64(2 * parts)
		for turn := edge - 2; turn <= edge+1; turn++ {
			me := int(turn) % parts
			b := holds(t, bookOf(t, me, f), f, with(turn-1, split(t, 5, 6)), (me+1)%parts)
			want := api.OK
			if turn < edge {
				want = api.ErrRule
			}
			what := fmt.Sprintf("turn %d of %d", turn, parts)
			wantPropose(t, what+", other data", b, f, api.Var{Turn: turn, Data: "e", Exits: split(t, 5, 6)}, want)
			wantPropose(t, what+", other exits", b, f, with(turn, split(t, 6, 5)), want)
			wantPropose(t, what+", the same", b, f, with(turn, split(t, 5, 6)), api.OK)
			wantPropose(t, what+", final", b, f, final(with(turn, split(t, 5, 6))), want)
			wantPropose(t, what+", other exits, final", b, f, final(with(turn, split(t, 6, 5))), api.ErrRule)
		}
	}
}
