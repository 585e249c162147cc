package turn

import (
	"slices"

	"truce/api"
	"truce/rule"
	"truce/state"
)

// way is how a channel goes on: whether a state may come, api.OK, or why not.
type way interface {
	may(v api.Var) api.Errno
}

// begin is the way of a channel of which nothing is kept.
type begin struct{}

func (begin) may(v api.Var) api.Errno {
	switch {
	case v.Turn != 0:
		return api.ErrTurn
	case v.Final:
		return api.ErrRule
	}
	return api.OK
}

// behind is the way of one that has a last state.
type behind struct {
	fixed api.Fixed
	last  api.Var
}

func (w behind) may(v api.Var) api.Errno {
	err := rule.Follows(w.fixed, w.last, v)
	if err != api.OK && w.isForAll(v) {
		return api.OK
	}
	return err
}

// isForAll tells whether a state may come though no rule says so: it has no force till all have signed it.
func (w behind) isForAll(v api.Var) bool {
	return w.fixed.App == "" && v.Turn == w.last.Turn+1 && v.Turn >= twoRounds(w.fixed) &&
		!v.Final && !w.last.Final && sameTotals(w.last.Exits, v.Exits)
}

// sameTotals goes through the exits of both: an asset may be in one of them alone, and is then none of the other.
func sameTotals(a, b []api.Exit) bool {
	for _, e := range slices.Concat(a, b) {
		// Fit states' totals are below 2^256.
		before, _ := state.Total(a, e.Asset)
		after, _ := state.Total(b, e.Asset)
		if before != after {
			return false
		}
	}
	return true
}

func wayOf(c api.Chan) way {
	last, ok := lastOf(c)
	if !ok {
		return begin{}
	}
	return behind{fixed: c.Fixed, last: last.Var}
}

// lastOf is the kept state of the highest turn; false: none is kept.
func lastOf(c api.Chan) (api.Kept, bool) {
	var last api.Kept
	for _, k := range c.Kept {
		if k.Var.Turn >= last.Var.Turn {
			last = k
		}
	}
	return last, len(c.Kept) > 0
}

func nextTurn(c api.Chan) uint64 {
	last, ok := lastOf(c)
	if !ok {
		return 0
	}
	return last.Var.Turn + 1
}

// twoRounds is how many turns a channel is agreed upon and funded in; behind them its states may change.
func twoRounds(f api.Fixed) uint64 { return 2 * uint64(len(f.Parts)) }

// mayMove tells whether a wallet may move so: OK, or why not.
func mayMove(c api.Chan, v api.Var) api.Errno {
	switch {
	case !state.FitVar(v):
		return api.ErrForm
	case rule.Mover(c.Fixed, v.Turn) != c.Me || v.Turn < c.Mine:
		return api.ErrTurn
	}
	return wayOf(c).may(v)
}

// mayTake tells whether a wallet may take in a state that these have signed: OK, or why not. One that is kept came when it might.
func mayTake(c api.Chan, v api.Var, signed []bool) api.Errno {
	if k, ok := keptOf(c, v.Turn); ok {
		return unless(state.Same(k.Var, v), api.ErrThere)
	}
	if err := wayOf(c).may(v); err != api.OK {
		return err
	}
	return unless(signed[rule.Mover(c.Fixed, v.Turn)], api.ErrProof)
}

// keptOf is the state of a turn that is kept; false: none is.
func keptOf(c api.Chan, turn uint64) (api.Kept, bool) {
	at := slices.IndexFunc(c.Kept, func(k api.Kept) bool { return k.Var.Turn == turn })
	if at < 0 {
		return api.Kept{}, false
	}
	return c.Kept[at], true
}

// unless is no error where something holds.
func unless(holds bool, err api.Errno) api.Errno {
	if holds {
		return api.OK
	}
	return err
}
