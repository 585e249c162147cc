package judge

import (
	"cmp"
	"slices"
	"strings"

	"truce/api"
	"truce/num"
	"truce/state"
)

// Bounds of what a judge is made of.
const (
	maxHolds   = 200
	maxCases   = 200
	maxEnds    = 2 * api.MaxNow
	lenChannel = 32
	lenAsset   = 20
	lenDigest  = 32
)

// endsNever is when a channel ends that is not challenged.
const endsNever = 0

// isMoment tells whether a chain can be at that.
func isMoment(now int) bool { return 1 <= now && now <= api.MaxNow }

// hasEnded tells whether a case's channel has ended at a moment.
func hasEnded(c api.Case, now int) bool { return c.Ends > endsNever && c.Ends <= now }

// named tells whether a hold can bear these.
func named(channel, asset string) bool { return len(channel) == lenChannel && len(asset) == lenAsset }

func fitHolds(l []api.Hold) bool {
	return len(l) <= maxHolds && rises(l, orderHolds) && !slices.ContainsFunc(l, unfitHold) && sumsFit(l)
}

func unfitHold(h api.Hold) bool { return !named(h.Channel, h.Asset) || h.Amount == (api.U{}) }

// sumsFit tells whether of each asset no more is held than can be. The sums lie in a map, since a sum for each hold would go through all of them as often as there are some.
func sumsFit(l []api.Hold) bool {
	sums := map[string]api.U{}
	for _, h := range l {
		more, over := num.Add(sums[h.Asset], h.Amount)
		if over {
			return false
		}
		sums[h.Asset] = more
	}
	return true
}

func fitCases(l []api.Case) bool {
	return len(l) <= maxCases && rises(l, orderCases) && !slices.ContainsFunc(l, unfitCase)
}

func unfitCase(c api.Case) bool {
	return len(c.Channel) != lenChannel || c.Turn > api.MaxTurn || c.Ends < endsNever || c.Ends > maxEnds ||
		len(c.Digest) != lenDigest || !state.FitVar(api.Var{Exits: c.Exits})
}

// rises tells whether each of a list stands behind the one ahead of it.
func rises[T any](l []T, order func(a, b T) int) bool {
	for i := 1; i < len(l); i++ {
		if order(l[i-1], l[i]) >= 0 {
			return false
		}
	}
	return true
}

// holdAt is the place of what is held of an asset for a channel, or where that would stand, and whether it is there.
func holdAt(l []api.Hold, channel, asset string) (int, bool) {
	return slices.BinarySearchFunc(l, api.Hold{Channel: channel, Asset: asset}, orderHolds)
}

// caseAt is the place of a channel's case, or where that would stand, and whether it is there.
func caseAt(l []api.Case, channel string) (int, bool) {
	return slices.BinarySearchFunc(l, api.Case{Channel: channel}, orderCases)
}

func orderHolds(a, b api.Hold) int {
	return cmp.Or(strings.Compare(a.Channel, b.Channel), strings.Compare(a.Asset, b.Asset))
}

func orderCases(a, b api.Case) int { return strings.Compare(a.Channel, b.Channel) }
