package gen

import (
	"strings"

	"truce/api"
	"truce/key"
	"truce/num"
	"truce/state"
)

// What next numbers are reckoned by, and how much of their low end is not told.
const (
	factor = 6364136223846793005
	addend = 1442695040888963407
	lowEnd = 33
)

const (
	wallets    = 2
	assetBytes = 20
)

// numbers hands out a seed's numbers.
func numbers(seed uint64) func() uint64 {
	return func() uint64 {
		seed = seed*factor + addend
		return seed >> lowEnd
	}
}

// oneOf is the next number, below n.
func oneOf(next func() uint64, n uint64) uint64 { return next() % n }

// parts are the addresses of the keys that the wallets of a world have.
func parts() []string {
	var l []string
	for place := range uint64(wallets) {
		who, _ := key.Who(key.Small(place))
		l = append(l, who)
	}
	return l
}

// outcome is an outcome of one asset: so much for each of the participants.
func outcome(parts []string, amounts ...uint64) []api.Exit {
	e := api.Exit{Asset: assetOf("t")}
	for place, who := range parts {
		e.Allocs = append(e.Allocs, api.Alloc{Dest: state.Dest(who), Amount: num.Of(amounts[place])})
	}
	return []api.Exit{e}
}

// assetOf is the asset whose name is one byte, again and again.
func assetOf(b string) string { return strings.Repeat(b, assetBytes) }
