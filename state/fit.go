package state

import (
	"slices"

	"truce/api"
)

// Lower bounds of a channel; api has the upper ones.
const (
	minParts = 2
	minTime  = 1
)

// fitParts tells whether these are participants of a channel.
func fitParts(l []string) bool {
	if len(l) < minParts || len(l) > api.MaxParts {
		return false
	}
	for i, who := range l {
		if len(who) != addressBytes || slices.Contains(l[:i], who) {
			return false
		}
	}
	return true
}

// fitExits tells whether these are exits of a state.
func fitExits(l []api.Exit) bool {
	if len(l) > api.MaxExits {
		return false
	}
	for i, e := range l {
		if i > 0 && l[i-1].Asset >= e.Asset {
			return false
		}
		if !fitExit(e) {
			return false
		}
	}
	return true
}

func fitExit(e api.Exit) bool {
	if len(e.Asset) != addressBytes || len(e.Allocs) > api.MaxAllocs {
		return false
	}
	sides := sidesOf()
	for _, a := range e.Allocs {
		if !fitAlloc(a, sides) {
			return false
		}
	}
	_, ok := Total([]api.Exit{e}, e.Asset)
	return ok
}

func fitAlloc(a api.Alloc, sides map[int]int) bool {
	side, known := sides[a.Kind]
	return known && len(a.Dest) == destBytes && len(a.Left) == side && len(a.Right) == side
}

// sidesOf has what a kind of allocations needs: how many bytes Left has, and Right.
func sidesOf() map[int]int {
	return map[int]int{api.PayPlain: 0, api.PayBound: destBytes}
}
