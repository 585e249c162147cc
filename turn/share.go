package turn

import (
	"iter"
	"slices"

	"truce/api"
	"truce/book"
	"truce/num"
	"truce/state"
)

// shares hands out what is a wallet's own of each allocation of an asset.
func shares(b api.Book, l []api.Exit, asset string) iter.Seq[api.U] {
	return func(yield func(api.U) bool) {
		own := state.Dest(b.Who)
		for _, a := range allocsOf(l, asset) {
			if !yield(shareOf(b, own, asset, a)) {
				return
			}
		}
	}
}

// shareOf is what is a wallet's own of an allocation.
func shareOf(b api.Book, own, asset string, a api.Alloc) api.U {
	switch {
	case a.Kind == api.PayBound:
		return least(a.Amount, promised(b, own, asset, a))
	case a.Dest == own:
		return a.Amount
	}
	return api.U{}
}

// promised is what the channel that an allocation is bound to promises a wallet: by the judge's way of paying it out, its sides get the amounts of just two plain allocations.
func promised(b api.Book, own, asset string, a api.Alloc) api.U {
	side := sideOf(a, own)
	if side == none {
		return api.U{}
	}
	// Of a channel that is not there nothing is kept, so that nothing is supported.
	c, _ := book.Find(b, a.Dest)
	l := allocsOf(supported(c), asset)
	if len(l) != 2 || l[0].Kind != api.PayPlain || l[1].Kind != api.PayPlain {
		return api.U{}
	}
	return l[side].Amount
}

// none is no side.
const none = -1

// sideOf is which side of what is bound between it and another one a destination is: 0 the left one, 1 the right one, or none.
func sideOf(a api.Alloc, own string) int {
	switch {
	case a.Left == a.Right:
		return none
	case a.Left == own:
		return 0
	case a.Right == own:
		return 1
	}
	return none
}

// supported is the outcome of a channel's newest state that is supported; empty: none is.
func supported(c api.Chan) []api.Exit {
	row := book.Best(c)
	if len(row) == 0 {
		return nil
	}
	return row[len(row)-1].Var.Exits
}

// allocsOf is the allocations of an asset, of which a fit state has at most one exit.
func allocsOf(l []api.Exit, asset string) []api.Alloc {
	at := slices.IndexFunc(l, func(e api.Exit) bool { return e.Asset == asset })
	if at < 0 {
		return nil
	}
	return l[at].Allocs
}

func least(a, b api.U) api.U {
	if num.Cmp(a, b) < 0 {
		return a
	}
	return b
}
