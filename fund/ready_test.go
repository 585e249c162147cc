package fund

import (
	"fmt"
	"testing"

	"truce/api"
	"truce/state"
)

// P26.3: a channel that is not there, ahead of all else.
func TestReadyNone(t *testing.T) {
	f, g := channel(t, 2, bare), channel(t, 2, yes)
	for _, b := range []api.Book{{}, bookOf(t, 0), bookOf(t, 0, g), sealed(t, bookOf(t, 0, g), g, at(1))} {
		wantReady(t, "no such channel", judgeOf(t, f, 8), b, f, api.Var{}, api.ErrNone)
		for _, id := range []string{"", "abc", rep(0, 32), state.Id(g)[1:]} {
			if e, err := Ready(api.Judge{}, b, id); err != api.ErrNone || spelled(e) != spelled(api.Entry{}) {
				t.Errorf("channel %x: error %d", id, err)
			}
		}
	}
}

// P26.3: a channel that is not funded, or is left; ahead of its turn.
func TestReadyOpen(t *testing.T) {
	f := channel(t, 2, bare)
	for me := range 2 {
		b := bookOf(t, me, f)
		full := judgeOf(t, f, 8)
		wantReady(t, "nothing kept", full, b, f, api.Var{}, api.ErrOpen)
		wantReady(t, "one has signed", full, holds(t, b, f, with(1, split(t, 5, 3)), 1), f, api.Var{}, api.ErrOpen)
		wantReady(t, "one has signed late", full, holds(t, b, f, with(7, split(t, 5, 3)), 1), f, api.Var{}, api.ErrOpen)
		wantReady(t, "too early", full, sealed(t, b, f, with(0, split(t, 5, 3))), f, api.Var{}, api.ErrOpen)
		for _, turn := range []uint64{1, 2, 3, 4, 9} {
			what := fmt.Sprintf("turn %d for %d", turn, me)
			agreed := sealed(t, b, f, with(turn, split(t, 5, 3)))
			for held := range uint64(8) {
				wantReady(t, fmt.Sprintf("%s, %d held", what, held), judgeOf(t, f, held), agreed, f, api.Var{}, api.ErrOpen)
			}
			left := takes(t, agreed, enGoal(f, api.GoalExit))
			wantReady(t, what+", left", full, left, f, api.Var{}, api.ErrOpen)
			wantReady(t, what+", left, not funded", api.Judge{}, left, f, api.Var{}, api.ErrOpen)
		}
	}
}

// P26.3: in the second turn of each, each in its own, what was agreed on.
func TestReadyTurns(t *testing.T) {
	for parts := 2; parts <= 4; parts++ {
		for _, says := range []string{bare, yes, no} {
			f := channel(t, parts, says)
			for me := range parts {
				for turn := parts - 1; turn < 2*parts+2; turn++ {
					b := sealed(t, bookOf(t, me, f), f, with(uint64(turn), split(t, 5, 3)))
					want := api.ErrTurn
					if turn+1 < 2*parts && (turn+1)%parts == me {
						want = api.OK
					}
					what := fmt.Sprintf("turn %d of %d for %d by %q", turn, parts, me, says)
					wantReady(t, what, judgeOf(t, f, 8), b, f, with(uint64(turn+1), split(t, 5, 3)), want)
					wantReady(t, what+", more held", judgeOf(t, f, 9), b, f, with(uint64(turn+1), split(t, 5, 3)), want)
				}
			}
		}
	}
}

// P26.3: of the last state, whose data and exits they are, though what is agreed on is another one; of a final one turn.Propose's error.
func TestReadyLast(t *testing.T) {
	f := channel(t, 3, bare)
	data := func(turn uint64, says string, l []api.Exit) api.Var { return api.Var{Turn: turn, Data: says, Exits: l} }
	b := sealed(t, bookOf(t, 1, f), f, with(2, split(t, 5, 3)))
	full := judgeOf(t, f, 8)
	wantReady(t, "another one's turn", full, b, f, api.Var{}, api.ErrTurn)
	b = holds(t, b, f, data(3, "e", split(t, 6, 9)), 0)
	wantReady(t, "behind the last one", full, b, f, data(4, "e", split(t, 6, 9)), api.OK)
	wantReady(t, "of what is agreed on 1 lacks", judgeOf(t, f, 7), b, f, api.Var{}, api.ErrOpen)
	wantReady(t, "of 6 and 9 all is held", judgeOf(t, f, 15), b, f, data(4, "e", split(t, 6, 9)), api.OK)
	late := holds(t, bookOf(t, 0, f), f, with(5, split(t, 5, 3)), 2)
	late = sealed(t, late, f, with(3, split(t, 5, 3)))
	wantReady(t, "behind a last one that is too late", full, late, f, api.Var{}, api.ErrTurn)
	for parts := 2; parts <= 4; parts++ {
		f := channel(t, parts, bare)
		for turn := parts - 1; turn < 2*parts; turn++ {
			for me := range parts {
				b := sealed(t, bookOf(t, me, f), f, final(with(uint64(turn), split(t, 5, 3))))
				want := api.ErrFinal
				if turn+1 == 2*parts || (turn+1)%parts != me {
					want = api.ErrTurn
				}
				wantReady(t, fmt.Sprintf("final at %d of %d for %d", turn, parts, me), judgeOf(t, f, 8), b, f, api.Var{}, want)
			}
		}
	}
}
