package watch

import (
	"fmt"
	"slices"
	"testing"

	"truce/api"
	"truce/judge"
	"truce/state"
)

// numbered is a channel of two without a rule, another one by each number.
func numbered(t testing.TB, n uint64) api.Fixed {
	t.Helper()
	f := channel(t, 2, bare)
	f.Nonce = n
	return f
}

// held is a judge that holds so much gold and wool more for a channel.
func held(t testing.TB, j api.Judge, f api.Fixed, golds, wools uint64) api.Judge {
	t.Helper()
	return lays(t, lays(t, j, f, gold, golds), f, wool, wools)
}

// P27.2: of an outcome without what is bound all is paid out, if there is something to pay, and to pay it of.
func TestEndedTransfer(t *testing.T) {
	f, g := numbered(t, 1), numbered(t, 2)
	high := api.Alloc{Dest: destOf(t, 0), Amount: api.U{0, 0, 0, 1}}
	for what, c := range map[string]struct {
		l    []api.Exit
		want bool
	}{
		"no exits":                        {nil, false},
		"no allocations":                  {[]api.Exit{exit(gold)}, false},
		"nothing to pay":                  {split(t, 0, 0), false},
		"both are paid":                   {split(t, 5, 3), true},
		"the first one is paid":           {split(t, 5, 0), true},
		"the second one is paid":          {split(t, 0, 3), true},
		"1":                               {split(t, 0, 1), true},
		"a high number":                   {[]api.Exit{exit(gold, plain(t, 1, 0), high)}, true},
		"to a stranger":                   {[]api.Exit{exit(gold, plain(t, 7, 1))}, true},
		"to a channel":                    {[]api.Exit{exit(gold, api.Alloc{Dest: state.Id(g), Amount: api.U{1}})}, true},
		"of another asset":                {[]api.Exit{exit(rep(9, 20), plain(t, 0, 5))}, false},
		"bound":                           {[]api.Exit{exit(gold, bound(t, g, 0, 1, 5))}, false},
		"bound, and nothing":              {[]api.Exit{exit(gold, plain(t, 0, 0), bound(t, g, 0, 1, 5))}, false},
		"bound to itself, that goes on":   {[]api.Exit{exit(gold, bound(t, g, 0, 1, 5), plain(t, 0, 0))}, false},
		"bound, and something behind":     {[]api.Exit{exit(gold, bound(t, g, 0, 1, 5), plain(t, 0, 5))}, true},
		"bound, and something ahead":      {[]api.Exit{exit(gold, plain(t, 0, 5), bound(t, g, 0, 1, 5))}, true},
		"nothing, nothing, and something": {[]api.Exit{exit(gold, plain(t, 0, 0), plain(t, 1, 0), plain(t, 0, 1))}, true},
	} {
		for _, n := range []uint64{0, 1, 8, 100} {
			for _, b := range []api.Book{bookOf(t, 0, f), sealed(t, bookOf(t, 1, f), f, at(7)), sealed(t, bookOf(t, 1, f), f, final(at(7)))} {
				// What is held of another asset, or for another channel, is none of it.
				j := lays(t, held(t, knows(known(f, 5, 2, c.l...)), f, n, 9), g, gold, 9)
				var want []api.Tx
				if c.want && n > 0 {
					want = append(want, pays(f, gold))
				}
				what := fmt.Sprintf("%s, %d held", what, n)
				wantMoves(t, what, j, 3, b, f, want...)
				wantMoves(t, what+", leaving", j, 3, leaves(t, b, f), f, want...)
			}
		}
	}
}

// P27.2: all that an outcome says is done exit by exit, in their order: each by itself.
func TestEndedExits(t *testing.T) {
	f, g := numbered(t, 1), numbered(t, 2)
	b, last := bookOf(t, 0, f), rep(9, 20)
	l := []api.Exit{
		exit(gold, plain(t, 0, 5), plain(t, 1, 3)),
		exit(wool, plain(t, 0, 1), plain(t, 1, 2), bound(t, g, 0, 1, 3)),
		exit(last, plain(t, 0, 4)),
	}
	j := knows(known(f, 5, 3, l...), known(g, 5, 4, split(t, 2, 1)...))
	inner := exit(wool, plain(t, 0, 2), plain(t, 1, 1))
	with := func(golds, wools, lasts uint64) api.Judge {
		return lays(t, held(t, j, f, golds, wools), f, last, lasts)
	}
	wantMoves(t, "nothing held", with(0, 0, 0), 3, b, f)
	wantMoves(t, "all held", with(8, 6, 4), 3, b, f, pays(f, gold), pays(f, wool), pays(f, last))
	wantMoves(t, "the first", with(1, 0, 0), 3, b, f, pays(f, gold))
	wantMoves(t, "the second", with(0, 1, 0), 3, b, f, pays(f, wool))
	wantMoves(t, "the last", with(0, 0, 1), 3, b, f, pays(f, last))
	wantMoves(t, "all but the second", with(1, 0, 1), 3, b, f, pays(f, gold), pays(f, last))
	j = knows(known(f, 5, 3, l...), known(g, 5, 4, inner))
	wantMoves(t, "what is bound goes on", with(8, 6, 4), 3, b, f, pays(f, gold), pays(f, wool), pays(f, last))
	wantMoves(t, "what is bound has ended", with(8, 6, 4), 4, b, f, pays(f, gold), claims(f, wool, 2), pays(f, last))
	wantMoves(t, "what is bound has ended, none held", with(0, 0, 4), 4, b, f, claims(f, wool, 2), pays(f, last))
}

// P27.2: the first place of what is bound to a channel that has ended, ahead of a payment; what is bound to others stays.
func TestEndedClaim(t *testing.T) {
	f, g, h := numbered(t, 1), numbered(t, 2), numbered(t, 3)
	b := bookOf(t, 1, f)
	both := []api.Exit{exit(gold, plain(t, 0, 5), bound(t, g, 0, 1, 7), plain(t, 1, 3), bound(t, h, 1, 0, 4), bound(t, g, 0, 1, 7))}
	first, second := known(g, 5, 3, split(t, 6, 1)...), known(h, 5, 3, split(t, 0, 4)...)
	goesOn := func(c api.Case, ends int) api.Case {
		c.Ends = ends
		return c
	}
	for what, c := range map[string]struct {
		l    []api.Case
		want api.Tx
	}{
		"none is known":                   {nil, pays(f, gold)},
		"both have ended":                 {[]api.Case{first, second}, claims(f, gold, 1)},
		"the first has ended":             {[]api.Case{first}, claims(f, gold, 1)},
		"the second has ended":            {[]api.Case{second}, claims(f, gold, 3)},
		"the first is not challenged":     {[]api.Case{goesOn(first, 0), second}, claims(f, gold, 3)},
		"the first ends later":            {[]api.Case{goesOn(first, 4), second}, claims(f, gold, 3)},
		"the first has just ended":        {[]api.Case{goesOn(first, 3), goesOn(second, 1)}, claims(f, gold, 1)},
		"the first has ended long since":  {[]api.Case{goesOn(first, 1), second}, claims(f, gold, 1)},
		"both end later":                  {[]api.Case{goesOn(first, 4), goesOn(second, 5)}, pays(f, gold)},
		"both are not challenged":         {[]api.Case{goesOn(first, 0), goesOn(second, 0)}, pays(f, gold)},
		"another one of theirs has ended": {[]api.Case{known(numbered(t, 4), 5, 3, split(t, 6, 1)...)}, pays(f, gold)},
	} {
		j := knows(append(c.l, known(f, 5, 3, both...))...)
		for _, n := range []uint64{0, 1, 30} {
			var want []api.Tx
			if c.want.Kind == api.TxClaim || n > 0 {
				want = append(want, c.want)
			}
			wantMoves(t, fmt.Sprintf("%s, %d held", what, n), lays(t, j, f, gold, n), 3, b, f, want...)
		}
	}
}

// P27.2: each place that a claim can have; a plain allocation to a channel that has ended is none.
func TestEndedClaimPlaces(t *testing.T) {
	f, g := numbered(t, 1), numbered(t, 2)
	inner := known(g, 5, 2, split(t, 6, 1)...)
	for place := range 8 {
		l := []api.Alloc{plain(t, 0, 1), {Dest: state.Id(g), Amount: api.U{7}}, plain(t, 1, 0)}
		for len(l) < 8 {
			l = append(l, plain(t, len(l)%2, 2))
		}
		l[place] = bound(t, g, 0, 1, 7)
		j := lays(t, knows(known(f, 5, 3, exit(gold, l...)), inner), f, gold, 9)
		wantMoves(t, fmt.Sprint("place ", place), j, 3, bookOf(t, 0, f), f, claims(f, gold, place))
	}
	j := lays(t, knows(known(f, 5, 3, exit(gold, api.Alloc{Dest: state.Id(g), Amount: api.U{7}})), inner), f, gold, 9)
	wantMoves(t, "plain", j, 3, bookOf(t, 0, f), f, pays(f, gold))
}

// P27.2: what the words say most plainly: the first place, even if the judge can't take it, since the outcomes don't fit.
func TestEndedClaimUnfit(t *testing.T) {
	f, g, h := numbered(t, 1), numbered(t, 2), numbered(t, 3)
	l := []api.Exit{exit(gold, plain(t, 0, 5), plain(t, 1, 3), bound(t, g, 0, 1, 7), bound(t, h, 0, 1, 7))}
	self := []api.Exit{exit(gold, plain(t, 0, 5), plain(t, 1, 3), bound(t, f, 0, 1, 8))}
	for what, c := range map[string]struct {
		l     []api.Exit
		inner []api.Exit
		want  int
		err   api.Errno
	}{
		"no outcome":       {l, nil, 2, api.ErrForm},
		"one share":        {l, split(t, 7), 2, api.ErrForm},
		"three shares":     {l, split(t, 3, 3, 1), 2, api.ErrForm},
		"another sum":      {l, split(t, 3, 3), 2, api.ErrFunds},
		"of another asset": {l, []api.Exit{exit(wool, plain(t, 0, 4), plain(t, 1, 3))}, 2, api.ErrForm},
		"of itself":        {self, nil, 2, api.ErrForm},
	} {
		j := lays(t, knows(known(f, 5, 3, c.l...), known(g, 5, 3, c.inner...), known(h, 5, 3, split(t, 3, 4)...)), f, gold, 9)
		wantTold(t, what, j, 3, bookOf(t, 0, f), f, claims(f, gold, c.want))
		if _, err := judge.Claim(j, 3, state.Id(f), gold, c.want); err != c.err {
			t.Errorf("%s: error %d", what, err)
		}
	}
}

// P27.2 to P27.4: from a ledger's end to its last coin: what is bound is claimed first, one after another, then all is paid, and then there is nothing more to do.
func TestLedgerToItsEnd(t *testing.T) {
	f, g, h := numbered(t, 1), numbered(t, 2), numbered(t, 3)
	l := []api.Exit{exit(gold, plain(t, 0, 5), plain(t, 1, 3), bound(t, g, 0, 1, 7), bound(t, h, 1, 0, 4)), exit(wool, plain(t, 1, 2))}
	b := leaves(t, sealed(t, bookOf(t, 0, f), f, final(with(5, l))), f)
	j := held(t, knows(known(g, 5, 2, split(t, 6, 1)...), known(h, 9, 5, split(t, 3, 1)...)), f, 19, 2)
	var steps []string
	var coins []api.Coin
	for now := 3; now < 9; now++ {
		told := Moves(j, now, b, state.Id(f))
		wantTaken(t, fmt.Sprint("at ", now), j, now, b, f)
		for _, tx := range told {
			next, paid, err := done(j, now, tx)
			if err != api.OK {
				t.Fatalf("at %d: error %d", now, err)
			}
			j, coins = next, append(coins, paid...)
			steps = append(steps, fmt.Sprintf("%d: %d %d %.1x", now, tx.Kind, tx.Index, tx.Asset))
		}
	}
	want := []string{"3: 4 0 ", "4: 6 2 07", "4: 5 0 08", "5: 6 2 07", "6: 5 0 07"}
	if !slices.Equal(steps, want) {
		t.Errorf("%q, want %q", steps, want)
	}
	// Of h, between 1 and 0, 3 are the participant 1's: 0 has 5, 6 and 1, and 1 has 3, 1 and 3.
	due := []api.Coin{{Who: whoOf(t, 1), Asset: wool, Amount: api.U{2}}, {Who: whoOf(t, 0), Asset: gold, Amount: api.U{12}}, {Who: whoOf(t, 1), Asset: gold, Amount: api.U{7}}}
	if !slices.Equal(coins, due) || len(j.Holds) > 0 {
		t.Errorf("paid: %v; still held: %v", coins, j.Holds)
	}
}

// P27.4: a judge with no more room for a hold does not take a payment to channels.
func TestEndedNoRoom(t *testing.T) {
	f, g := numbered(t, 1), numbered(t, 2)
	b := bookOf(t, 0, f)
	l := exit(gold, plain(t, 0, 1), api.Alloc{Dest: state.Id(g), Amount: api.U{1}})
	j := knows(known(f, 5, 3, l))
	for i := range 199 {
		j.Holds = append(j.Holds, api.Hold{Channel: rep(0, 31) + string([]byte{byte(i)}), Asset: wool, Amount: api.U{1}})
	}
	j = lays(t, j, f, gold, 3)
	wantTold(t, "200 holds", j, 3, b, f, pays(f, gold))
	if _, _, err := done(j, 3, pays(f, gold)); err != api.ErrMany {
		t.Errorf("200 holds: error %d", err)
	}
	j.Holds = j.Holds[1:]
	wantMoves(t, "199 holds", j, 3, b, f, pays(f, gold))
}
