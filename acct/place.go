package acct

import (
	"slices"
	"sort"

	"truce/api"
)

// place tells, of any list that rises, where a thing is in it or would stand, and whether it is there; order holds the thing against one of the list, as strings.Compare does.
func place[T any](l []T, order func(T) int) (int, bool) {
	return sort.Find(len(l), func(i int) int { return order(l[i]) })
}

// find is the place of an address's account of an asset.
func find(l []api.Coin, who, asset string) (int, bool) {
	sought := api.Coin{Who: who, Asset: asset}
	return place(l, func(c api.Coin) int { return order(sought, c) })
}

// with is accounts in which this one stands for the one that was there, if there was; one of 0 is no account.
func with(l []api.Coin, c api.Coin) []api.Coin {
	at, there := find(l, c.Who, c.Asset)
	ahead, behind := l[:at], l[at:]
	if there {
		behind = behind[1:]
	}
	var own []api.Coin
	if c.Amount != (api.U{}) {
		own = []api.Coin{c}
	}
	return slices.Concat(ahead, own, behind)
}

// copied is accounts in memory of their own, none if there are none.
func copied(l []api.Coin) []api.Coin { return slices.Concat(l) }
