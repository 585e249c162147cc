package fund

import (
	"iter"

	"truce/api"
	"truce/book"
	"truce/judge"
	"truce/state"
)

// exits hands out a state's exits, each with how much of its asset is held for a channel.
func exits(j api.Judge, channel string, v api.Var) iter.Seq2[api.Exit, api.U] {
	return func(yield func(api.Exit, api.U) bool) {
		for _, e := range v.Exits {
			if !yield(e, judge.Held(j, channel, e.Asset)) {
				return
			}
		}
	}
}

// sum is what the first n allocations of an exit have together. It is told: a fit exit's are below 2^256.
func sum(e api.Exit, n int) api.U {
	total, _ := state.Total([]api.Exit{{Asset: e.Asset, Allocs: e.Allocs[:n]}}, e.Asset)
	return total
}

// partOf is what a participant lays down of an exit: what goes plainly to it from the allocation of its own place; false: nothing.
func partOf(e api.Exit, me int, own string) (api.U, bool) {
	if me < 0 || me >= len(e.Allocs) {
		return api.U{}, false
	}
	a := e.Allocs[me]
	if a.Kind != api.PayPlain || a.Dest != own || a.Amount == (api.U{}) {
		return api.U{}, false
	}
	return a.Amount, true
}

// agreed is the state that a channel is funded by; false: none is agreed upon, since some have not had a turn yet to say so.
func agreed(c api.Chan) (api.Var, bool) {
	row := book.Best(c)
	if len(row) == 0 {
		return api.Var{}, false
	}
	v := row[len(row)-1].Var
	if v.Turn+1 < uint64(len(c.Fixed.Parts)) {
		return api.Var{}, false
	}
	return v, true
}

// isBegin tells whether a turn is one of the first two of each participant, in which a channel is agreed upon and funded.
func isBegin(c api.Chan, turn uint64) bool { return turn < 2*uint64(len(c.Fixed.Parts)) }

// lastOf is the last state of a channel of which some are kept, which lie by their turns.
func lastOf(c api.Chan) api.Var { return c.Kept[len(c.Kept)-1].Var }
