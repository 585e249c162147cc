package turn

import (
	"slices"

	"truce/api"
	"truce/num"
)

// isUnanswered tells whether a kept state lacks a wallet's seal, and is one that changes something, and none of a turn that it has signed.
func isUnanswered(c api.Chan, k api.Kept) bool {
	return !hasSeal(k, c.Me) && k.Var.Turn >= c.Mine && k.Var.Turn >= twoRounds(c.Fixed)
}

// isWelcome tells whether a wallet signs a state without being asked: the end of a channel, whose outcome was there ahead, and what takes nothing from it where all must agree.
func isWelcome(b api.Book, c api.Chan, v api.Var) bool {
	return v.Final || c.Fixed.App == "" && isNoLess(b, v.Exits, supported(c))
}

// isNoLess tells whether an outcome has as much of each asset that is a wallet's own as another one.
func isNoLess(b api.Book, l, than []api.Exit) bool {
	less := func(e api.Exit) bool {
		return num.Cmp(Worth(b, l, e.Asset), Worth(b, than, e.Asset)) < 0
	}
	return !slices.ContainsFunc(than, less)
}
