package rule

import (
	"slices"

	"truce/api"
	"truce/state"
	"truce/vm"
)

// pair is two states of a channel: whether b may follow a, who being the one that moves.
type pair struct {
	fixed api.Fixed
	a, b  api.Var
	who   int
}

// question is one thing that is asked of a pair: OK, or what is wrong.
type question func(p pair) api.Errno

// ask puts a row of questions to a pair; the first error is the answer. Each may count on those ahead of it.
func (p pair) ask(row ...question) api.Errno {
	for _, q := range row {
		if err := q(p); err != api.OK {
			return err
		}
	}
	return api.OK
}

func (p pair) isFit() api.Errno {
	return unless(state.FitFixed(p.fixed) && state.FitVar(p.a) && state.FitVar(p.b), api.ErrForm)
}

func (p pair) isByPart() api.Errno {
	return unless(0 <= p.who && p.who < len(p.fixed.Parts), api.ErrForm)
}

func (p pair) isNext() api.Errno {
	return unless(p.b.Turn == p.a.Turn+1, api.ErrTurn)
}

func (p pair) staysFinal() api.Errno {
	return unless(p.b.Final || !p.a.Final, api.ErrFinal)
}

// keepsFirst asks that nothing changes while a channel is not yet agreed upon and funded.
func (p pair) keepsFirst() api.Errno {
	same := p.b.Data == p.a.Data && p.sameExits() && !p.b.Final
	return unless(same || !p.isFirst(), api.ErrRule)
}

func (p pair) keepsOutcome() api.Errno {
	return unless(p.sameExits() || !p.b.Final, api.ErrRule)
}

// keepsTotals goes through both states' exits: an asset may be in one of them alone, and is then none of the other.
func (p pair) keepsTotals() api.Errno {
	for _, e := range slices.Concat(p.a.Exits, p.b.Exits) {
		// Fit states' totals are below 2^256.
		before, _ := state.Total(p.a.Exits, e.Asset)
		after, _ := state.Total(p.b.Exits, e.Asset)
		if before != after {
			return api.ErrRule
		}
	}
	return api.OK
}

// isAllowed asks the channel's code, which must tell 1. The run of no code tells nothing, so that a channel without one allows nothing.
func (p pair) isAllowed() api.Errno {
	run := vm.Run(p.fixed.App, Input(p.fixed, p.a, p.b, p.who), api.GasRule)
	return unless(run.Stand == api.RnDone && run.Out == number(1), api.ErrRule)
}

// needsNoRule tells whether what was asked so far is enough for b.
func (p pair) needsNoRule() bool { return p.b.Final || p.isFirst() }

// isFirst tells whether b is of the first two rounds of turns.
func (p pair) isFirst() bool { return p.b.Turn < 2*uint64(len(p.fixed.Parts)) }

func (p pair) sameExits() bool {
	return state.Same(api.Var{Exits: p.a.Exits}, api.Var{Exits: p.b.Exits})
}

// unless is no error where something holds.
func unless(holds bool, err api.Errno) api.Errno {
	if holds {
		return api.OK
	}
	return err
}
