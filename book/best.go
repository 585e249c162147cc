package book

import (
	"iter"
	"slices"

	"truce/api"
	"truce/rule"
)

// newest hands out kept states with their places, the newest first.
func newest(l []api.Kept) iter.Seq2[int, api.Kept] {
	return func(yield func(int, api.Kept) bool) {
		for at := len(l) - 1; at >= 0; at-- {
			if !yield(at, l[at]) {
				return
			}
		}
	}
}

// placeIn is the place of a turn among kept states, and whether one of it stands there.
func placeIn(l []api.Kept, turn uint64) (int, bool) {
	for at, k := range newest(l) {
		switch {
		case k.Var.Turn == turn:
			return at, true
		case k.Var.Turn < turn:
			return at + 1, false
		}
	}
	return 0, false
}

// best is the row of kept states that supports a channel's newest state; empty: nothing is supported.
func best(c api.Chan) []api.Kept {
	for at := range newest(c.Kept) {
		if row := support(c.Fixed, c.Kept[:at+1]); len(row) > 0 {
			return row
		}
	}
	return nil
}

// support is the shortest end of some kept states that supports the last one; empty: none does. Whether each follows the one ahead is asked behind all else, since rules are dear to run: where one does not, no longer end will do.
func support(f api.Fixed, l []api.Kept) []api.Kept {
	for at := range newest(l) {
		row := l[at:]
		if len(row) > len(f.Parts) {
			return nil
		}
		if !isSigned(f, row) {
			continue
		}
		if !follow(f, row) {
			return nil
		}
		return row
	}
	return nil
}

// isSigned tells whether each participant has signed a state of a row that asks for it.
func isSigned(f api.Fixed, row []api.Kept) bool {
	for part := range f.Parts {
		has := func(k api.Kept) bool { return k.Has[part] }
		if !slices.ContainsFunc(row[asksFrom(f, row, part):], has) {
			return false
		}
	}
	return true
}

// asksFrom is the place in a row from which on a participant's seal will do: from the last state that is its own move on, or, if there is none such, any. Of one state alone that is always this one.
func asksFrom(f api.Fixed, row []api.Kept, part int) int {
	for at, k := range newest(row) {
		if rule.Mover(f, k.Var.Turn) == part {
			return at
		}
	}
	return 0
}

// follow tells whether each state of a row may follow the one ahead of it, by the next turn and by the rule.
func follow(f api.Fixed, row []api.Kept) bool {
	for at := 1; at < len(row); at++ {
		if rule.Follows(f, row[at-1].Var, row[at].Var) != api.OK {
			return false
		}
	}
	return true
}

// signed is a kept state with the seals that it has.
func signed(k api.Kept) api.Signed {
	out := api.Signed{Var: copiedVar(k.Var)}
	for part, has := range k.Has {
		if has {
			out.Seals = append(out.Seals, k.Seals[part])
		}
	}
	return out
}
