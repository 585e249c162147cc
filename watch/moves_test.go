package watch

import (
	"fmt"
	"math"
	"testing"

	"truce/api"
	"truce/judge"
	"truce/state"
)

// P27.2: no such channel; no moment, ahead of all.
func TestMovesNone(t *testing.T) {
	f, g := channel(t, 2, bare), channel(t, 2, yes)
	b := leaves(t, sealed(t, bookOf(t, 0, f), f, with(5, split(t, 5, 3))), f)
	ended := lays(t, knows(known(f, 5, 2, split(t, 5, 3)...)), f, gold, 8)
	for _, j := range []api.Judge{{}, knows(known(f, 2, 9)), ended} {
		for _, x := range []api.Book{{}, bookOf(t, 0), leaves(t, bookOf(t, 0, g), g), leaves(t, sealed(t, bookOf(t, 0, g), g, at(5)), g)} {
			wantMoves(t, "no such channel", j, 3, x, f)
		}
		for _, id := range []string{"", "abc", rep(0, 32), state.Id(f)[1:], rep(255, 32)} {
			if l := Moves(j, 3, b, id); len(l) > 0 {
				t.Errorf("channel %x: %s", id, toldTxs(l))
			}
		}
		for _, now := range []int{0, -1, math.MinInt, api.MaxNow + 1, math.MaxInt} {
			wantMoves(t, "no moment", j, now, b, f)
			wantMoves(t, "no moment, staying", j, now, takes(t, b, enGoal(f, api.GoalStay)), f)
		}
	}
	for _, now := range []int{1, api.MaxNow} {
		wantMoves(t, "the ends of what is a moment", api.Judge{}, now, b, f, proves(t, api.TxChallenge, b, f))
		wantMoves(t, "the ends of what is a moment, ended", lays(t, knows(known(f, 5, 1, split(t, 5, 3)...)), f, gold, 8), now, b, f, pays(f, gold))
	}
}

// P27.2: where nothing is supported nothing can be laid down.
func TestMovesNothingSupported(t *testing.T) {
	f := channel(t, 2, bare)
	for _, b := range []api.Book{bookOf(t, 0, f), holds(t, bookOf(t, 0, f), f, at(4), 0), holds(t, bookOf(t, 0, f), f, final(at(5)), 1)} {
		for _, j := range []api.Judge{{}, knows(known(f, 0, 0)), knows(known(f, 0, 9)), knows(known(f, 7, 9))} {
			wantMoves(t, "staying", j, 3, b, f)
			wantMoves(t, "leaving", j, 3, leaves(t, b, f), f)
		}
	}
}

// stand is how a channel stands at the moment 3, and what a wallet does that has a supported state of turn 5.
type stand struct {
	what       string
	j          api.Judge
	stay, exit int // kinds; 0: nothing
}

// stands are all ways in which a case that has not ended can stand to the turn 5.
func stands(f, g api.Fixed) []stand {
	return []stand{
		{"no case at all", api.Judge{}, 0, api.TxChallenge},
		{"another one's case", knows(known(g, 2, 9)), 0, api.TxChallenge},
		{"not challenged, the first turn", knows(known(f, 0, 0)), 0, api.TxChallenge},
		{"not challenged, an older turn", knows(known(f, 4, 0)), 0, api.TxChallenge},
		{"not challenged, the same turn", knows(known(f, 5, 0)), 0, api.TxChallenge},
		{"not challenged, a newer turn", knows(known(f, 6, 0)), 0, 0},
		{"not challenged, the last turn", knows(known(f, api.MaxTurn, 0)), 0, 0},
		{"challenged, the first turn", knows(known(f, 0, 9)), api.TxCheckpoint, api.TxChallenge},
		{"challenged, an older turn", knows(known(f, 4, 9)), api.TxCheckpoint, api.TxChallenge},
		{"challenged, an older turn, 1 ahead of the end", knows(known(f, 4, 4)), api.TxCheckpoint, api.TxChallenge},
		{"challenged, an older turn, beside another one's", knows(known(f, 4, 4), known(g, 9, 2)), api.TxCheckpoint, api.TxChallenge},
		{"challenged, an older turn, long ahead of the end", knows(known(f, 4, 2*api.MaxNow)), api.TxCheckpoint, api.TxChallenge},
		{"challenged, the same turn", knows(known(f, 5, 9)), 0, 0},
		{"challenged, a newer turn", knows(known(f, 6, 9)), 0, 0},
		{"challenged, the last turn", knows(known(f, api.MaxTurn, 9)), 0, 0},
	}
}

// wantKind is wantMoves of a transaction of a kind, by which the newest state is laid down; of 0 of none.
func wantKind(t *testing.T, what string, j api.Judge, b api.Book, f api.Fixed, kind int) {
	t.Helper()
	if kind == 0 {
		wantMoves(t, what, j, 3, b, f)
		return
	}
	wantMoves(t, what, j, 3, b, f, proves(t, kind, b, f))
}

// P27.2: a state that is not final: whoever leaves challenges, unless that is done by one that is as new; whoever stays takes a challenge by an older one away.
func TestMovesBest(t *testing.T) {
	f, g := channel(t, 2, yes), channel(t, 2, bare)
	row := holds(t, holds(t, bookOf(t, 0, f), f, at(4), 0), f, at(5), 1)
	endedRow := holds(t, holds(t, bookOf(t, 0, f), f, at(4), 0), f, final(at(5)), 1)
	newer := holds(t, sealed(t, bookOf(t, 1, f), f, with(5, split(t, 5, 3))), f, final(with(7, split(t, 5, 3))), 1)
	for what, b := range map[string]api.Book{
		"one state":             sealed(t, bookOf(t, 0, f), f, with(5, split(t, 5, 3))),
		"a row":                 row,
		"a row to a final one":  endedRow,
		"a newer one by one":    newer,
		"of more than the last": holds(t, row, f, at(4), 1),
	} {
		for _, s := range stands(f, g) {
			wantKind(t, s.what+", staying by "+what, s.j, b, f, s.stay)
			wantKind(t, s.what+", leaving by "+what, s.j, leaves(t, b, f), f, s.exit)
			back := takes(t, leaves(t, b, f), enGoal(f, api.GoalStay))
			wantKind(t, s.what+", staying again by "+what, s.j, back, f, s.stay)
		}
	}
}

// P27.2: a final state of all: whoever leaves ends the channel by it, whatever stands there; whoever stays goes on as by any other one.
func TestMovesConclude(t *testing.T) {
	f, g := channel(t, 2, yes), channel(t, 2, bare)
	b := sealed(t, bookOf(t, 1, f), f, final(with(5, split(t, 5, 3))))
	for _, s := range stands(f, g) {
		wantKind(t, s.what+", staying", s.j, b, f, s.stay)
		wantKind(t, s.what+", leaving", s.j, leaves(t, b, f), f, api.TxConclude)
	}
	row := holds(t, leaves(t, b, f), f, final(with(6, split(t, 5, 3))), 0)
	wantKind(t, "a final one behind it by one", api.Judge{}, row, f, api.TxChallenge)
	wantKind(t, "a final one behind it by one, a turn that it is not above", knows(known(f, 7, 9)), row, f, 0)
	wantKind(t, "a final one behind it by all", knows(known(f, 7, 9)), holds(t, row, f, final(with(6, split(t, 5, 3))), 1), f, api.TxConclude)
}

// P27.2: channels of up to four, and proofs of as many states.
func TestMovesParts(t *testing.T) {
	for parts := 2; parts <= 4; parts++ {
		f := channel(t, parts, yes)
		for me := range parts {
			b := bookOf(t, me, f)
			for turn := range uint64(3 * parts) {
				b = holds(t, b, f, at(turn), int(turn)%parts)
				what := fmt.Sprintf("turn %d of %d for %d", turn, parts, me)
				if int(turn) < parts-1 {
					wantMoves(t, what, knows(known(f, 0, 9)), 3, leaves(t, b, f), f)
					continue
				}
				tx := proves(t, api.TxChallenge, b, f)
				if len(tx.Proof) != parts {
					t.Errorf("%s: %s", what, toldTxs([]api.Tx{tx}))
				}
				wantMoves(t, what, knows(known(f, turn-1, 9)), 3, leaves(t, b, f), f, tx)
				tx.Kind = api.TxCheckpoint
				wantMoves(t, what, knows(known(f, turn-1, 9)), 3, b, f, tx)
				wantMoves(t, what+", as new", knows(known(f, turn, 9)), 3, b, f)
			}
		}
	}
}

// P27.2: at the end of a channel nothing more is laid down, however old that was.
func TestMovesEnd(t *testing.T) {
	f := channel(t, 2, bare)
	for _, v := range []api.Var{at(5), final(at(5))} {
		b := sealed(t, bookOf(t, 0, f), f, v)
		out := leaves(t, b, f)
		for ends := 1; ends <= 9; ends++ {
			j := knows(known(f, 2, ends))
			what := fmt.Sprint("ends at ", ends)
			if ends <= 5 {
				wantMoves(t, what, j, 5, b, f)
				wantMoves(t, what+", leaving", j, 5, out, f)
				continue
			}
			wantMoves(t, what, j, 5, b, f, proves(t, api.TxCheckpoint, b, f))
			kind := api.TxChallenge
			if v.Final {
				kind = api.TxConclude
			}
			wantMoves(t, what+", leaving", j, 5, out, f, proves(t, kind, out, f))
		}
	}
}

// P27.4: a judge with no more room for a case does not take what it can be told.
func TestMovesNoRoom(t *testing.T) {
	f := channel(t, 2, bare)
	b := leaves(t, sealed(t, bookOf(t, 0, f), f, at(5)), f)
	var j api.Judge
	for i := range 200 {
		j.Cases = append(j.Cases, api.Case{Channel: rep(0, 31) + string([]byte{byte(i)}), Digest: rep(1, 32)})
	}
	tx := proves(t, api.TxChallenge, b, f)
	wantTold(t, "200 cases", j, 3, b, f, tx)
	if _, _, err := done(j, 3, tx); err != api.ErrMany {
		t.Errorf("200 cases: error %d", err)
	}
	j.Cases = j.Cases[1:]
	wantMoves(t, "199 cases", j, 3, b, f, tx)
	full, err := judge.Challenge(j, 3, f, tx.Proof)
	if err != api.OK {
		t.Fatalf("challenge: error %d", err)
	}
	b = sealed(t, b, f, at(6))
	wantMoves(t, "one of 200 cases", full, 4, b, f, proves(t, api.TxChallenge, b, f))
}
