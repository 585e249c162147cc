package turn

import (
	"slices"

	"truce/api"
	"truce/seal"
	"truce/state"
)

// mine is the entry of a state with a wallet's own seal.
func mine(b api.Book, c api.Chan, v api.Var) (api.Entry, api.Errno) {
	s, err := seal.Make(state.Digest(c.Fixed, v), b.Key)
	if err != api.OK {
		return api.Entry{}, err
	}
	return api.Entry{Kind: api.EnMine, Channel: c.Id, Var: copied(v), Seal: s}, api.OK
}

// seen is the entries of the seals of others that a state brings, and that are not kept.
func seen(c api.Chan, s api.Signed, signed []bool) []api.Entry {
	var out []api.Entry
	kept, _ := keptOf(c, s.Var.Turn)
	seals := sealsOf(c.Fixed, s)
	for part, has := range signed {
		if has && part != c.Me && !hasSeal(kept, part) {
			out = append(out, api.Entry{Kind: api.EnSeen, Channel: c.Id, Var: copied(s.Var), Who: part, Seal: seals[part]})
		}
	}
	return out
}

// sealsOf is the first seal of each participant that has signed a state, in a place of its own.
func sealsOf(f api.Fixed, s api.Signed) []api.Seal {
	out := make([]api.Seal, len(f.Parts))
	digest := state.Digest(f, s.Var)
	// From the last one on, so that the first one stays.
	for _, one := range slices.Backward(s.Seals) {
		who, _ := seal.Who(digest, one)
		if part := slices.Index(f.Parts, who); part >= 0 {
			out[part] = one
		}
	}
	return out
}

// hasSeal tells whether a participant's seal of a state is kept.
func hasSeal(k api.Kept, part int) bool {
	return 0 <= part && part < len(k.Has) && k.Has[part]
}

// copied is a state in memory of its own.
func copied(v api.Var) api.Var {
	v.Exits = slices.Clone(v.Exits)
	for i, e := range v.Exits {
		v.Exits[i].Allocs = slices.Clone(e.Allocs)
	}
	return v
}
