package turn

import (
	"fmt"
	"testing"

	"truce/api"
	"truce/book"
	"truce/state"
)

// accepts fails the test unless a wallet accepts as the chapter's words say, and its book takes what it tells; its answer, and the book behind it.
func accepts(t testing.TB, what string, b api.Book, f api.Fixed, s api.Signed) ([]api.Entry, api.Errno, api.Book) {
	t.Helper()
	before, given := spelled(b), spelled(s)
	got, err := Accept(b, state.Id(f), s)
	want, wantErr := plainAccept(t, b, state.Id(f), s)
	wantEntries(t, what, got, err, want, wantErr)
	if spelled(b) != before || spelled(s) != given {
		t.Errorf("%s: what was given was changed", what)
	}
	for i, e := range got {
		next, err := book.Apply(b, e)
		if err == api.ErrMany && i == 0 {
			return got, api.OK, b
		}
		if err != api.OK {
			t.Fatalf("%s: entry %d is not taken: error %d", what, i, err)
		}
		b = next
	}
	return got, err, b
}

// wantAccept fails the test unless a state with seals is accepted: EnSeen of these participants.
func wantAccept(t testing.TB, what string, b api.Book, f api.Fixed, s api.Signed, parts ...int) {
	t.Helper()
	var want []api.Entry
	for _, part := range parts {
		want = append(want, enSeen(t, f, s.Var, part))
	}
	got, err, _ := accepts(t, what, b, f, s)
	wantEntries(t, what, got, err, want, api.OK)
}

// wantNot fails the test unless a state is not accepted, with this error.
func wantNot(t testing.TB, what string, b api.Book, f api.Fixed, s api.Signed, want api.Errno) {
	t.Helper()
	got, err, _ := accepts(t, what, b, f, s)
	wantEntries(t, what, got, err, nil, want)
}

// P25.3: a channel that is not there, ahead of all else.
func TestAcceptNone(t *testing.T) {
	f, g := channel(t, 2, yes), numbered(t, 2, yes, 8)
	for _, b := range []api.Book{{}, bookOf(t, 0), bookOf(t, 0, g), bookOf(t, 1, g)} {
		wantNot(t, "no such channel", b, f, signed(t, f, at(0), 0), api.ErrNone)
		wantNot(t, "no such channel, none fit", b, f, api.Signed{Var: at(top)}, api.ErrNone)
		wantNot(t, "no such channel, no seal", b, f, signed(t, f, at(0), stranger), api.ErrNone)
	}
}

// P25.3: what proof.Signers says, ahead of what is kept.
func TestAcceptSigners(t *testing.T) {
	f := channel(t, 3, yes)
	b := holds(t, bookOf(t, 0, f), f, at(6), 1)
	for turn := range uint64(10) {
		bad := signed(t, f, at(turn), 0, 1)
		bad.Seals[1].S[0] ^= 1
		odd := signed(t, f, at(turn), 0)
		odd.Var.Data = "e"
		moved := signed(t, f, at(turn+1), 0, 1, 2)
		moved.Var.Turn = turn
		what := fmt.Sprintf("turn %d: ", turn)
		wantNot(t, what+"too many seals", b, f, signed(t, f, at(turn), 0, 1, 2, 0), api.ErrForm)
		wantNot(t, what+"data", b, f, api.Signed{Var: api.Var{Turn: turn, Data: rep(1, 257)}}, api.ErrForm)
		wantNot(t, what+"a stranger", b, f, signed(t, f, at(turn), 0, stranger), api.ErrSeal)
		wantNot(t, what+"a stranger first", b, f, signed(t, f, at(turn), stranger, 1, 0), api.ErrSeal)
		wantNot(t, what+"a seal that is none", b, f, api.Signed{Var: at(turn), Seals: []api.Seal{{}}}, api.ErrSeal)
		wantNot(t, what+"a seal that is spoilt", b, f, bad, api.ErrSeal)
		wantNot(t, what+"a seal of other data", b, f, odd, api.ErrSeal)
		wantNot(t, what+"seals of another turn", b, f, moved, api.ErrSeal)
		wantNot(t, what+"a seal of another channel", b, f, signed(t, numbered(t, 3, yes, 8), at(turn), 0), api.ErrSeal)
	}
	wantNot(t, "a turn beyond all", b, f, api.Signed{Var: at(api.MaxTurn + 1)}, api.ErrForm)
}

// P25.3: of a turn that is kept just that state, whatever might come, and whoever has signed it.
func TestAcceptKept(t *testing.T) {
	f := channel(t, 4, no)
	b := bookOf(t, 2, f)
	b = holds(t, b, f, at(8), 2, 1)
	b = holds(t, b, f, final(at(10)), 3)
	b = holds(t, b, f, with(12, split(t, 1)), 0)
	for _, s := range []api.Signed{
		signed(t, f, other(8), 0, 1), signed(t, f, other(8)), signed(t, f, final(at(8)), 0), signed(t, f, with(8, split(t, 1)), 0),
		signed(t, f, at(10), 2), signed(t, f, final(other(10)), 2), signed(t, f, at(12), 0), signed(t, f, with(12, split(t, 1, 0)), 0),
	} {
		wantNot(t, "another one: "+toldVar(s.Var), b, f, s, api.ErrThere)
	}
	for _, c := range []struct {
		v        api.Var
		by, want []int
	}{
		{at(8), nil, nil}, {at(8), []int{1}, nil}, {at(8), []int{2}, nil}, {at(8), []int{2, 1}, nil}, {at(8), []int{0}, []int{0}}, {at(8), []int{3, 1, 2, 0}, []int{0, 3}},
		{final(at(10)), nil, nil}, {final(at(10)), []int{1}, []int{1}}, {final(at(10)), []int{2}, nil}, {final(at(10)), []int{3, 2, 1, 0}, []int{0, 1}},
		{with(12, split(t, 1)), []int{1, 0}, []int{1}}, {with(12, split(t, 1)), []int{0, 0, 0}, nil}, {with(12, split(t, 1)), []int{3, 3, 1, 1}, []int{1, 3}},
	} {
		wantAccept(t, fmt.Sprint("kept, by ", c.by, ": ", toldVar(c.v)), b, f, signed(t, f, c.v, c.by...), c.want...)
	}
}

// P25.3: where nothing is kept, a state of turn 0 that is not final, by the one whose turn it is.
func TestAcceptFirst(t *testing.T) {
	for parts := 2; parts <= 4; parts++ {
		for _, says := range []string{bare, no} {
			f := channel(t, parts, says)
			for me := range parts {
				b := bookOf(t, me, f)
				for turn := uint64(1); turn < 10; turn++ {
					mover := int(turn) % parts
					wantNot(t, "another turn", b, f, signed(t, f, at(turn), mover), api.ErrTurn)
					wantNot(t, "another turn, final", b, f, signed(t, f, final(at(turn)), mover), api.ErrTurn)
					wantNot(t, "another turn by nobody", b, f, signed(t, f, at(turn)), api.ErrTurn)
				}
				wantNot(t, "final", b, f, signed(t, f, final(at(0)), 0, 1), api.ErrRule)
				wantNot(t, "final by nobody", b, f, signed(t, f, final(at(0))), api.ErrRule)
				wantNot(t, "by nobody", b, f, signed(t, f, at(0)), api.ErrProof)
				wantNot(t, "by another one", b, f, signed(t, f, with(0, split(t, 1)), 1), api.ErrProof)
				want := []int{0, 1}
				if me < 2 {
					want = []int{1 - me}
				}
				wantAccept(t, "by both", b, f, signed(t, f, with(0, split(t, 1)), 1, 0), want...)
			}
			wantAccept(t, "by itself", bookOf(t, 0, f), f, signed(t, f, at(0), 0))
		}
	}
}

// P25.3: behind a state what may come, by rule.Follows or for all; ahead of who has signed it.
func TestAcceptMay(t *testing.T) {
	gave, took, more := split(t, 5, 6), split(t, 6, 5), split(t, 5, 7)
	for what, c := range map[string]struct {
		last, next api.Var
		by         map[string]api.Errno
	}{
		"the next one":            {with(7, gave), with(8, gave), map[string]api.Errno{yes: api.OK, no: api.ErrRule, bare: api.OK}},
		"given":                   {with(7, gave), with(8, took), map[string]api.Errno{yes: api.OK, no: api.ErrRule, bare: api.OK}},
		"other data":              {at(7), other(8), map[string]api.Errno{yes: api.OK, no: api.ErrRule, bare: api.OK}},
		"more":                    {with(7, gave), with(8, more), map[string]api.Errno{yes: api.ErrRule, no: api.ErrRule, bare: api.ErrRule}},
		"the end":                 {with(7, gave), final(with(8, gave)), map[string]api.Errno{yes: api.OK, no: api.OK, bare: api.OK}},
		"another end":             {with(7, gave), final(with(8, took)), map[string]api.Errno{yes: api.ErrRule, no: api.ErrRule, bare: api.ErrRule}},
		"behind the end":          {final(with(7, gave)), with(8, gave), map[string]api.Errno{yes: api.ErrFinal, no: api.ErrFinal, bare: api.ErrFinal}},
		"the end once more":       {final(with(7, gave)), final(with(8, gave)), map[string]api.Errno{yes: api.OK, no: api.OK, bare: api.OK}},
		"two turns on":            {with(7, gave), with(9, gave), map[string]api.Errno{yes: api.ErrTurn, no: api.ErrTurn, bare: api.ErrTurn}},
		"a turn back":             {with(7, gave), with(6, gave), map[string]api.Errno{yes: api.ErrTurn, no: api.ErrTurn, bare: api.ErrTurn}},
		"the first turn":          {with(7, gave), with(0, gave), map[string]api.Errno{yes: api.ErrTurn, no: api.ErrTurn, bare: api.ErrTurn}},
		"a first turn":            {with(2, gave), with(3, gave), map[string]api.Errno{yes: api.OK, no: api.OK, bare: api.OK}},
		"other data early":        {at(2), other(3), map[string]api.Errno{yes: api.ErrRule, no: api.ErrRule, bare: api.ErrRule}},
		"an early end":            {at(2), final(at(3)), map[string]api.Errno{yes: api.ErrRule, no: api.ErrRule, bare: api.ErrRule}},
		"other data behind early": {at(3), other(4), map[string]api.Errno{yes: api.OK, no: api.ErrRule, bare: api.OK}},
		"the last turn":           {at(api.MaxTurn - 1), other(api.MaxTurn), map[string]api.Errno{yes: api.OK, no: api.ErrRule, bare: api.OK}},
	} {
		for says, want := range c.by {
			f := channel(t, 2, says)
			for me := range 2 {
				mover, they := int(c.next.Turn)%2, 1-me
				b := holds(t, bookOf(t, me, f), f, c.last, they)
				what := fmt.Sprintf("%s for %d by %q", what, me, says)
				if want != api.OK {
					wantNot(t, what, b, f, signed(t, f, c.next, 0, 1), want)
					wantNot(t, what+", signed by nobody", b, f, signed(t, f, c.next), want)
					continue
				}
				wantAccept(t, what, b, f, signed(t, f, c.next, 0, 1), they)
				wantNot(t, what+", signed by nobody", b, f, signed(t, f, c.next), api.ErrProof)
				wantNot(t, what+", signed by another one", b, f, signed(t, f, c.next, 1-mover), api.ErrProof)
				var one []int
				if mover == they {
					one = []int{they}
				}
				wantAccept(t, what+", signed by the mover", b, f, signed(t, f, c.next, mover), one...)
			}
		}
	}
}

// P25.3: a row of entries in the participants' order, each with the first of the seals that are its.
func TestAcceptSeals(t *testing.T) {
	f := channel(t, 4, yes)
	orders := [][]int{{0}, {0, 1}, {1, 0}, {3, 0}, {3, 2, 1, 0}, {0, 1, 2, 3}, {2, 0}, {2, 0, 2, 3}, {0, 0, 0, 0}, {1, 1, 0, 0}}
	for me := range 4 {
		b := holds(t, bookOf(t, me, f), f, at(7), 3)
		for _, l := range orders {
			var want []int
			for part := range 4 {
				for _, by := range l {
					if by == part && part != me {
						want = append(want, part)
						break
					}
				}
			}
			wantAccept(t, fmt.Sprint("by ", l, " for ", me), b, f, signed(t, f, at(8), l...), want...)
		}
	}
}

// P25.3: of two unlike seals of one participant the first one.
func TestAcceptFirstSeal(t *testing.T) {
	f := channel(t, 3, yes)
	b := holds(t, bookOf(t, 1, f), f, at(5), 2)
	v := at(6)
	one, two, last := sealOf(t, f, v, 0), secondSeal(t, f, v, 0), sealOf(t, f, v, 2)
	for what, c := range map[string]struct {
		l    []api.Seal
		want []api.Seal
	}{
		"one":              {[]api.Seal{one}, []api.Seal{one}},
		"the other":        {[]api.Seal{two}, []api.Seal{two}},
		"one first":        {[]api.Seal{one, two}, []api.Seal{one}},
		"the other first":  {[]api.Seal{two, one}, []api.Seal{two}},
		"with another's":   {[]api.Seal{last, two, one}, []api.Seal{two, last}},
		"around another's": {[]api.Seal{one, last, two}, []api.Seal{one, last}},
	} {
		got, err, next := accepts(t, what, b, f, api.Signed{Var: v, Seals: c.l})
		if err != api.OK || len(got) != len(c.want) {
			t.Fatalf("%s: %d entries, error %d", what, len(got), err)
		}
		for i, e := range got {
			if e.Seal != c.want[i] {
				t.Errorf("%s: another seal of %d", what, e.Who)
			}
		}
		again, err, _ := accepts(t, what+", once more", next, f, api.Signed{Var: v, Seals: c.l})
		wantEntries(t, what+", once more", again, err, nil, api.OK)
	}
}

// P25.3, P25.5: an old state's seals are taken as long as it is kept; what was let go comes too late. Where too many are kept, Accept tells what the book does not take.
func TestAcceptOld(t *testing.T) {
	f := channel(t, 4, yes)
	b := bookOf(t, 3, f)
	for turn := uint64(8); turn < 16; turn++ {
		b = holds(t, b, f, at(turn), int(turn)%2)
	}
	got, err := Accept(b, state.Id(f), signed(t, f, at(16), 0))
	wantEntries(t, "a ninth one", got, err, []api.Entry{enSeen(t, f, at(16), 0)}, api.OK)
	if _, err := book.Apply(b, got[0]); err != api.ErrMany {
		t.Errorf("a ninth one is taken: error %d", err)
	}
	wantAccept(t, "an old one", b, f, signed(t, f, at(8), 2, 1), 1, 2)
	b = holds(t, b, f, at(15), 0, 2, 3)
	wantAccept(t, "one that is still kept", b, f, signed(t, f, at(11), 2), 2)
	wantNot(t, "one that was let go", b, f, signed(t, f, at(10), 2), api.ErrTurn)
	wantAccept(t, "the next one", b, f, signed(t, f, at(16), 0), 0)
}
