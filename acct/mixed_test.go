package acct

import (
	"math/big"
	"slices"
	"testing"

	"truce/api"
)

// mixedAmount is a number near an edge as often as not.
func mixedAmount(seed *uint64) api.U {
	switch below(seed, 6) {
	case 0:
		return api.U{}
	case 1:
		return most()
	case 2:
		return api.U{0, 0, 0, 1 << 62}
	case 3:
		return api.U{mix(seed), mix(seed), mix(seed), mix(seed)}
	}
	return api.U{uint64(below(seed, 20))}
}

// mixedName is one of a few addresses or assets, seldom one that is none.
func mixedName(seed *uint64) string {
	if below(seed, 30) == 0 {
		return rep(1, 18+3*below(seed, 2))
	}
	return name(below(seed, 4) * 100)
}

// P16.2, P16.3, P16.4: long rows of gifts and takings come out as the chapter's words have it, each error met; all stays fit, nothing but the one account changes.
func TestMixedRows(t *testing.T) {
	met := map[api.Errno]int{}
	for seed := range uint64(40) {
		var l []api.Coin
		for range 300 {
			who, asset, n := mixedName(&seed), mixedName(&seed), mixedAmount(&seed)
			do, plain := Give, plainGive
			if below(&seed, 2) == 0 {
				do, plain = Take, plainTake
				if have := Get(l, who, asset); below(&seed, 3) == 0 {
					n = have
				}
			}
			want, wantErr := plain(l, who, asset, n)
			got, err := do(l, who, asset, n)
			if err != wantErr || !slices.Equal(got, want) {
				t.Fatalf("%v, %x, %x, %v: %v, %v; want %v, %v", l, who, asset, n, got, err, want, wantErr)
			}
			met[err]++
			wantFit(t, got)
			l = got
		}
	}
	for _, err := range []api.Errno{api.OK, api.ErrForm, api.ErrOver, api.ErrFunds} {
		if met[err] < 50 {
			t.Errorf("error %d met but %d times", err, met[err])
		}
	}
}

// P16.4: behind Give the asset's sum is n more, all other accounts stay, and Take of the same leaves all as it was; Take has it the other way round.
func TestNothingIsLost(t *testing.T) {
	given := 0
	for seed := range uint64(60) {
		var l []api.Coin
		for range 60 {
			who, asset, n := mixedName(&seed), mixedName(&seed), mixedAmount(&seed)
			more, err := Give(l, who, asset, n)
			if err != api.OK {
				continue
			}
			given++
			wantMoved(t, l, more, who, asset, large(n))
			back, err := Take(more, who, asset, n)
			if err != api.OK || !slices.Equal(back, l) {
				t.Fatalf("given to %v and taken: %v, %v", l, back, err)
			}
			wantMoved(t, more, back, who, asset, new(big.Int).Neg(large(n)))
			if below(&seed, 3) > 0 {
				l = more
			}
		}
	}
	if given < 500 {
		t.Errorf("given but %d times", given)
	}
}

// wantMoved fails the test unless one account alone, and its asset's sum, have changed by so much.
func wantMoved(t *testing.T, a, b []api.Coin, who, asset string, by *big.Int) {
	t.Helper()
	first, ok := Sum(a, asset)
	second, also := Sum(b, asset)
	if !ok || !also || new(big.Int).Add(large(first), by).Cmp(large(second)) != 0 {
		t.Errorf("the sum went from %v to %v, not by %v", first, second, by)
	}
	if new(big.Int).Add(large(Get(a, who, asset)), by).Cmp(large(Get(b, who, asset))) != 0 {
		t.Errorf("the account went from %v to %v", Get(a, who, asset), Get(b, who, asset))
	}
	own := func(c api.Coin) bool { return c.Who == who && c.Asset == asset }
	if !slices.Equal(slices.DeleteFunc(slices.Clone(a), own), slices.DeleteFunc(slices.Clone(b), own)) {
		t.Errorf("other accounts changed: %v, %v", a, b)
	}
}

// P16.4: up to a thousand accounts and down again, in an order of its own.
func TestUpAndDown(t *testing.T) {
	var l []api.Coin
	var err api.Errno
	// 377 and 1000 have no divisor in common, so that each place comes once.
	for i := range 1000 {
		if l, err = Give(l, name(i*377%1000), name(i%3), api.U{uint64(i) + 1}); err != api.OK {
			t.Fatalf("gift %d: %v", i, err)
		}
	}
	wantFit(t, l)
	if len(l) != 1000 {
		t.Fatalf("%d accounts", len(l))
	}
	if m, err := Give(l, name(1000), name(0), api.U{1}); err != api.ErrMany || !slices.Equal(m, l) {
		t.Errorf("the 1001st: %v", err)
	}
	for i := range 1000 {
		if l, err = Take(l, name(i*377%1000), name(i%3), api.U{uint64(i) + 1}); err != api.OK {
			t.Fatalf("taking %d: %v", i, err)
		}
	}
	if l != nil {
		t.Errorf("left: %v", l)
	}
}

// P16.1: mixed lists, fit ones and such as nearly are, against the chapter's words.
func TestMixedFit(t *testing.T) {
	met := map[bool]int{}
	for seed := range uint64(4000) {
		var l []api.Coin
		for range below(&seed, 6) {
			c := api.Coin{Who: mixedName(&seed), Asset: mixedName(&seed), Amount: mixedAmount(&seed)}
			if below(&seed, 3) > 0 {
				c.Amount = api.U{1}
			}
			l = append(l, c)
		}
		if below(&seed, 4) > 0 {
			slices.SortFunc(l, order)
		}
		if got := Fit(l); got != plainFit(l) {
			t.Fatalf("%v: %v", l, got)
		}
		met[Fit(l)]++
	}
	if met[true] < 500 || met[false] < 500 {
		t.Errorf("met: %v", met)
	}
}

// 0.5: no call changes what it is given, and no answer shares memory with it, beside errors neither.
func TestOwnMemory(t *testing.T) {
	type call func(l []api.Coin) []api.Coin
	for what, do := range map[string]call{
		"give":        func(l []api.Coin) []api.Coin { m, _ := Give(l, name(1), name(1), api.U{1}); return m },
		"give anew":   func(l []api.Coin) []api.Coin { m, _ := Give(l, name(9), name(1), api.U{1}); return m },
		"give first":  func(l []api.Coin) []api.Coin { m, _ := Give(l, name(0), name(1), api.U{1}); return m },
		"give 0":      func(l []api.Coin) []api.Coin { m, _ := Give(l, name(9), name(1), api.U{}); return m },
		"give form":   func(l []api.Coin) []api.Coin { m, _ := Give(l, "", name(1), api.U{1}); return m },
		"give over":   func(l []api.Coin) []api.Coin { m, _ := Give(l, name(9), name(1), most()); return m },
		"take":        func(l []api.Coin) []api.Coin { m, _ := Take(l, name(1), name(1), api.U{1}); return m },
		"take all":    func(l []api.Coin) []api.Coin { m, _ := Take(l, name(1), name(1), api.U{5}); return m },
		"take last":   func(l []api.Coin) []api.Coin { m, _ := Take(l, name(3), name(3), api.U{9}); return m },
		"take 0":      func(l []api.Coin) []api.Coin { m, _ := Take(l, name(9), name(1), api.U{}); return m },
		"take form":   func(l []api.Coin) []api.Coin { m, _ := Take(l, "", name(1), api.U{1}); return m },
		"take funds":  func(l []api.Coin) []api.Coin { m, _ := Take(l, name(9), name(1), api.U{1}); return m },
		"only looked": func(l []api.Coin) []api.Coin { Fit(l); Get(l, name(1), name(1)); Sum(l, name(1)); return nil },
	} {
		was := []api.Coin{coin(1, 1, 5), coin(3, 1, 7), coin(3, 3, 9)}
		// Room behind the list shows a call that writes there.
		l := append(make([]api.Coin, 0, 9), was...)
		got := do(l)
		if !slices.Equal(l, was) || l[:4][3] != (api.Coin{}) {
			t.Errorf("%s: changed what it was given", what)
		}
		told := slices.Clone(got)
		clear(l[:9])
		if !slices.Equal(got, told) {
			t.Errorf("%s: the answer changed with what was given", what)
		}
	}
	many := many(1000)
	got, err := Give(many, name(1), name(1), api.U{1})
	clear(many)
	if err != api.ErrMany || got[0].Who != name(0) {
		t.Errorf("the answer beside %v changed", err)
	}
}

// 0.1: lists that are not fit make nothing panic.
func TestUnfitListsEnd(t *testing.T) {
	full := api.Coin{Who: name(1), Asset: name(1), Amount: most()}
	for _, l := range [][]api.Coin{
		{{}}, {{}, {}, {}}, {coin(3, 1, 1), coin(1, 1, 1), coin(2, 1, 1)}, {full, full}, {coin(1, 1, 1), full, full}, many(1001), make([]api.Coin, 3000),
	} {
		for _, who := range []string{"", name(0), name(1), name(2), name(3), rep(255, 20)} {
			for _, n := range []api.U{{}, {1}, most()} {
				Fit(l)
				Get(l, who, name(1))
				Give(l, who, name(1), n)
				Take(l, who, name(1), n)
				Sum(l, name(1))
			}
		}
	}
}
