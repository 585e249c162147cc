package chain

import (
	"slices"
	"strings"

	"truce/acct"
	"truce/api"
	"truce/judge"
	"truce/num"
)

// Bounds of what a chain is made of.
const (
	maxCounts = 1000
	maxN      = 1 << 40
	lenWho    = 20
	lenAsset  = 20
)

// fitMoney tells whether accounts and the judge can be, beside one another too.
func fitMoney(c api.Chain) bool {
	isTooMuch := func(h api.Hold) bool {
		_, ok := All(c, h.Asset)
		return !ok
	}
	return acct.Fit(c.Coins) && judge.Fit(c.Judge) && !slices.ContainsFunc(c.Judge.Holds, isTooMuch)
}

func fitCounts(l []api.Count) bool {
	return len(l) <= maxCounts && !slices.ContainsFunc(l, unfitCount) && countsRise(l)
}

func unfitCount(c api.Count) bool { return len(c.Who) != lenWho || c.N < 1 || c.N > maxN }

// countsRise tells whether each count's address is behind the one ahead of it.
func countsRise(l []api.Count) bool {
	for i := 1; i < len(l); i++ {
		if l[i-1].Who >= l[i].Who {
			return false
		}
	}
	return true
}

// countAt is the place of an address's count, or where that would stand, and whether it is there.
func countAt(l []api.Count, who string) (int, bool) {
	return slices.BinarySearchFunc(l, who, func(c api.Count, who string) int { return strings.Compare(c.Who, who) })
}

func sameJudge(a, b api.Judge) bool {
	return slices.Equal(a.Holds, b.Holds) && slices.EqualFunc(a.Cases, b.Cases, sameCase)
}

func sameCase(a, b api.Case) bool {
	return a.Channel == b.Channel && a.Turn == b.Turn && a.Ends == b.Ends && a.Digest == b.Digest &&
		slices.EqualFunc(a.Exits, b.Exits, sameExit)
}

func sameExit(a, b api.Exit) bool { return a.Asset == b.Asset && slices.Equal(a.Allocs, b.Allocs) }

// copied is a chain in memory of its own; lists that are empty are none.
func copied(c api.Chain) api.Chain {
	var cases []api.Case
	for _, k := range c.Judge.Cases {
		cases = append(cases, copiedCase(k))
	}
	c.Judge = api.Judge{Holds: slices.Concat(c.Judge.Holds), Cases: cases}
	c.Coins, c.Counts = slices.Concat(c.Coins), slices.Concat(c.Counts)
	return c
}

func copiedCase(c api.Case) api.Case {
	var exits []api.Exit
	for _, e := range c.Exits {
		exits = append(exits, api.Exit{Asset: e.Asset, Allocs: slices.Concat(e.Allocs)})
	}
	c.Exits = exits
	return c
}

func isOver(a, b api.U) bool {
	_, over := num.Add(a, b)
	return over
}
