package proof

import (
	"iter"
	"slices"

	"truce/api"
	"truce/rule"
	"truce/seal"
	"truce/state"
)

// nobody is whose a seal is that tells no participant.
const nobody = -1

// sealed hands out a fit signed state's seals, each with the place of the participant whose it is, or nobody. A seal is looked into when it is handed out, no earlier: that is dear, and those behind a bad one need it not.
func sealed(f api.Fixed, s api.Signed) iter.Seq2[api.Seal, int] {
	return func(yield func(api.Seal, int) bool) {
		digest := state.Digest(f, s.Var)
		for _, one := range s.Seals {
			if !yield(one, partOf(f, digest, one)) {
				return
			}
		}
	}
}

// partOf is the place of the participant by whose key a digest was sealed, or nobody.
func partOf(f api.Fixed, digest string, s api.Seal) int {
	who, err := seal.Who(digest, s)
	if err != api.OK {
		return nobody
	}
	// Index has no place of what it does not find, which is nobody, too.
	return slices.Index(f.Parts, who)
}

// fitRow tells whether these can be a proof: no more states than turns of one round.
func fitRow(f api.Fixed, l []api.Signed) bool {
	if len(l) == 0 || len(l) > len(f.Parts) {
		return false
	}
	for _, s := range l {
		if !fit(f, s) {
			return false
		}
	}
	return true
}

// follow tells whether each state of a row may follow the one ahead of it: the first error, or OK.
func follow(f api.Fixed, l []api.Signed) api.Errno {
	for i := 1; i < len(l); i++ {
		if err := rule.Follows(f, l[i-1].Var, l[i].Var); err != api.OK {
			return err
		}
	}
	return api.OK
}

// signersOf has who signed each state of a row.
func signersOf(f api.Fixed, l []api.Signed) ([][]bool, api.Errno) {
	out := make([][]bool, len(l))
	for i, s := range l {
		signed, err := Signers(f, s)
		if err != api.OK {
			return nil, err
		}
		out[i] = signed
	}
	return out, api.OK
}

// asksFrom is the place in a row from which on a participant's seal will do: what it moved itself it must have signed, it or one behind; where it has not moved, a seal of any state of the row agrees to what the others made of it by the rule. Of one state alone that is always this one.
func asksFrom(f api.Fixed, l []api.Signed, part int) int {
	for i, s := range slices.Backward(l) {
		if rule.Mover(f, s.Var.Turn) == part {
			return i
		}
	}
	return 0
}

// hasSigned tells whether a participant has signed one of some states, by who signed each.
func hasSigned(signed [][]bool, part int) bool {
	return slices.ContainsFunc(signed, func(who []bool) bool { return who[part] })
}
