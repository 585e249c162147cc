package acct

import (
	"math/big"
	"slices"
	"testing"

	"truce/api"
)

// P16.1: accounts that are fit, up to the edges of each bound.
func TestFit(t *testing.T) {
	low := most()
	low[0]--
	for what, l := range map[string][]api.Coin{
		"none":                           nil,
		"an empty list":                  {},
		"one":                            {coin(1, 1, 1)},
		"the greatest amount":            {{Who: name(1), Asset: name(1), Amount: most()}},
		"an amount high up":              {{Who: name(1), Asset: name(1), Amount: api.U{0, 0, 0, 1}}},
		"rising by asset":                {coin(1, 1, 1), coin(1, 2, 1)},
		"rising by who, falling assets":  {coin(1, 2, 1), coin(2, 1, 1)},
		"rising by the first byte":       {{Who: rep(0x7f, 20), Asset: name(1), Amount: api.U{1}}, {Who: rep(0x80, 20), Asset: name(1), Amount: api.U{1}}},
		"a thousand":                     many(1000),
		"2^256 - 1 of one asset":         {{Who: name(1), Asset: name(1), Amount: low}, coin(2, 1, 1)},
		"more than 2^256 of two of them": {{Who: name(1), Asset: name(1), Amount: most()}, {Who: name(1), Asset: name(2), Amount: most()}},
	} {
		if !Fit(l) {
			t.Errorf("%s: not fit", what)
		}
	}
}

// P16.1: accounts that are not fit, each by one thing alone.
func TestUnfit(t *testing.T) {
	for what, l := range map[string][]api.Coin{
		"1001":                   many(1001),
		"a short who":            {{Who: rep(1, 19), Asset: name(1), Amount: api.U{1}}},
		"a long who":             {{Who: rep(1, 21), Asset: name(1), Amount: api.U{1}}},
		"no who":                 {{Asset: name(1), Amount: api.U{1}}},
		"a short asset":          {{Who: name(1), Asset: rep(1, 19), Amount: api.U{1}}},
		"a long asset":           {{Who: name(1), Asset: rep(1, 21), Amount: api.U{1}}},
		"a 0":                    {coin(1, 1, 0)},
		"a 0 at last":            {coin(1, 1, 1), coin(2, 1, 0)},
		"falling by who":         {coin(2, 1, 1), coin(1, 2, 1)},
		"falling by asset":       {coin(1, 2, 1), coin(1, 1, 1)},
		"one twice":              {coin(1, 1, 1), coin(1, 1, 1)},
		"the last two turned":    {coin(1, 1, 1), coin(3, 1, 1), coin(2, 1, 1)},
		"2^256 of one asset":     {{Who: name(1), Asset: name(1), Amount: most()}, coin(2, 1, 1)},
		"2^256, one between":     {{Who: name(1), Asset: name(1), Amount: most()}, coin(1, 2, 5), coin(2, 1, 1)},
		"2^256 in three":         {{Who: name(1), Asset: name(1), Amount: api.U{0, 0, 0, 1 << 63}}, coin(2, 1, 1), {Who: name(3), Asset: name(1), Amount: api.U{0, 0, 0, 1 << 63}}},
		"2^256 of a later asset": {coin(1, 1, 1), {Who: name(1), Asset: name(2), Amount: most()}, coin(2, 2, 1)},
	} {
		if Fit(l) {
			t.Errorf("%s: fit", what)
		}
	}
}

// P16.1: what an address has of an asset, and 0 where there is no account.
func TestGet(t *testing.T) {
	l := []api.Coin{coin(1, 1, 5), coin(1, 3, 6), coin(3, 1, 7), {Who: name(3), Asset: name(5), Amount: most()}}
	wantFit(t, l)
	for _, c := range l {
		if got := Get(l, c.Who, c.Asset); got != c.Amount {
			t.Errorf("%v: got %v", c, got)
		}
	}
	for _, at := range [][2]string{
		{name(0), name(1)}, {name(1), name(0)}, {name(1), name(2)}, {name(1), name(4)}, {name(2), name(1)}, {name(3), name(2)}, {name(4), name(4)},
		{"", ""}, {name(1), ""}, {"", name(1)}, {name(1) + "\x00", name(1)}, {name(1)[:19], name(1)}, {rep(255, 20), rep(255, 20)},
	} {
		if got := Get(l, at[0], at[1]); got != (api.U{}) {
			t.Errorf("%x: got %v, want none", at, got)
		}
	}
	if got := Get(nil, name(1), name(1)); got != (api.U{}) {
		t.Errorf("of none: %v", got)
	}
}

// P16.1: each of a thousand accounts is found, and none between them.
func TestGetAmongMany(t *testing.T) {
	l := many(1000)
	for i := range l {
		l[i].Amount = api.U{uint64(i) + 1}
	}
	for i := range 1000 {
		if got := Get(l, name(2*i), name(1)); got != (api.U{uint64(i) + 1}) {
			t.Fatalf("the account %d: %v", i, got)
		}
		if got := Get(l, name(2*i+1), name(1)); got != (api.U{}) {
			t.Fatalf("behind the account %d: %v", i, got)
		}
	}
}

// P16.1: the sum of one asset's amounts, of any list, and false as soon as it is not below 2^256.
func TestSum(t *testing.T) {
	full := api.Coin{Who: name(1), Asset: name(1), Amount: most()}
	for _, c := range []struct {
		what  string
		l     []api.Coin
		asset string
		want  api.U
		ok    bool
	}{
		{"of none", nil, name(1), api.U{}, true},
		{"of another asset", []api.Coin{coin(1, 1, 5)}, name(2), api.U{}, true},
		{"of one", []api.Coin{coin(1, 1, 5)}, name(1), api.U{5}, true},
		{"of some", []api.Coin{coin(1, 1, 5), coin(1, 2, 9), coin(2, 1, 7)}, name(1), api.U{12}, true},
		{"of the last", []api.Coin{coin(1, 1, 5), coin(2, 1, 7), coin(2, 2, 9)}, name(2), api.U{9}, true},
		{"with a carry", []api.Coin{coin(1, 1, top), coin(2, 1, 1)}, name(1), api.U{0, 1}, true},
		{"the greatest", []api.Coin{full}, name(1), most(), true},
		{"the greatest and 0", []api.Coin{full, coin(2, 1, 0)}, name(1), most(), true},
		{"2^256", []api.Coin{full, coin(2, 1, 1)}, name(1), api.U{}, false},
		{"2^256, the great one last", []api.Coin{coin(2, 1, 1), full}, name(1), api.U{}, false},
		{"twice the greatest, then more", []api.Coin{full, full, coin(2, 1, 9)}, name(1), api.U{}, false},
		{"2^256 of another one", []api.Coin{full, coin(2, 1, 1), coin(2, 2, 3)}, name(2), api.U{3}, true},
		{"no order, one twice", []api.Coin{coin(2, 1, 1), coin(1, 1, 2), coin(2, 1, 1)}, name(1), api.U{4}, true},
		{"a short asset", []api.Coin{{Asset: "a", Amount: api.U{4}}, {Asset: "ab", Amount: api.U{8}}}, "a", api.U{4}, true},
		{"no asset", []api.Coin{{Amount: api.U{4}}, coin(1, 1, 2)}, "", api.U{4}, true},
		{"more than a thousand", many(1500), name(1), api.U{1500}, true},
	} {
		got, ok := Sum(c.l, c.asset)
		if got != c.want || ok != c.ok {
			t.Errorf("%s: %v, %v; want %v, %v", c.what, got, ok, c.want, c.ok)
		}
	}
}

// P16.2: Give makes an account where it belongs, or adds to the one that is there.
func TestGive(t *testing.T) {
	l := []api.Coin{coin(1, 1, 5), coin(3, 1, 7), coin(3, 3, 9)}
	for _, c := range []struct {
		what       string
		who, asset int
		n          uint64
		want       []api.Coin
	}{
		{"ahead of all", 0, 9, 1, []api.Coin{coin(0, 9, 1), coin(1, 1, 5), coin(3, 1, 7), coin(3, 3, 9)}},
		{"between", 2, 0, 1, []api.Coin{coin(1, 1, 5), coin(2, 0, 1), coin(3, 1, 7), coin(3, 3, 9)}},
		{"between by asset", 3, 2, 1, []api.Coin{coin(1, 1, 5), coin(3, 1, 7), coin(3, 2, 1), coin(3, 3, 9)}},
		{"behind all", 3, 4, 1, []api.Coin{coin(1, 1, 5), coin(3, 1, 7), coin(3, 3, 9), coin(3, 4, 1)}},
		{"more for the first", 1, 1, 2, []api.Coin{coin(1, 1, 7), coin(3, 1, 7), coin(3, 3, 9)}},
		{"more for the last", 3, 3, 2, []api.Coin{coin(1, 1, 5), coin(3, 1, 7), coin(3, 3, 11)}},
		{"0 more", 3, 1, 0, l},
		{"0 for one that has none", 2, 2, 0, l},
	} {
		got, err := Give(l, name(c.who), name(c.asset), api.U{c.n})
		if err != api.OK || !slices.Equal(got, c.want) {
			t.Errorf("%s: %v, %v; want %v", c.what, got, err, c.want)
		}
		wantFit(t, got)
	}
}

// P16.2: what can't be given, in the order of the chapter; beside the error the accounts are as they were.
func TestGiveErrors(t *testing.T) {
	full := []api.Coin{{Who: name(1), Asset: name(1), Amount: most()}}
	low := most()
	low[0]--
	nearly := []api.Coin{{Who: name(1), Asset: name(1), Amount: low}}
	// A thousand accounts that hold all there can be of their asset: two errors at once.
	both := many(1000)
	both[7].Amount, _ = small(new(big.Int).Sub(large(most()), big.NewInt(999)))
	wantFit(t, both)
	for _, c := range []struct {
		what       string
		l          []api.Coin
		who, asset string
		n          api.U
		want       api.Errno
	}{
		{"a short who", full, name(1)[:19], name(1), api.U{1}, api.ErrForm},
		{"a long who", full, name(1) + "a", name(1), api.U{1}, api.ErrForm},
		{"a short asset", full, name(1), name(1)[1:], api.U{1}, api.ErrForm},
		{"a long asset", full, name(1), name(1) + "a", api.U{1}, api.ErrForm},
		{"0 for nobody", full, "", "", api.U{}, api.ErrForm},
		{"1 above the greatest", full, name(1), name(1), api.U{1}, api.ErrOver},
		{"1 above it, for another one", full, name(2), name(1), api.U{1}, api.ErrOver},
		{"the greatest twice", full, name(1), name(1), most(), api.ErrOver},
		{"0 more than the greatest", full, name(1), name(1), api.U{}, api.OK},
		{"the greatest of another asset", full, name(1), name(2), most(), api.OK},
		{"up to the greatest", nearly, name(1), name(1), api.U{1}, api.OK},
		{"up to the greatest in two", nearly, name(2), name(1), api.U{1}, api.OK},
		{"2 more, for another one", nearly, name(2), name(1), api.U{2}, api.ErrOver},
		{"the thousandth", many(999), name(1), name(1), api.U{1}, api.OK},
		{"the 1001st", many(1000), name(1), name(1), api.U{1}, api.ErrMany},
		{"the 1001st, of another asset", many(1000), name(0), name(2), most(), api.ErrMany},
		{"the 1001st, behind all", many(1000), rep(255, 20), name(2), api.U{1}, api.ErrMany},
		{"more for one of a thousand", many(1000), name(8), name(1), api.U{1}, api.OK},
		{"0 for one beside a thousand", many(1000), name(1), name(1), api.U{}, api.OK},
		{"over ahead of many", both, name(1), name(1), api.U{1}, api.ErrOver},
		{"form ahead of both", both, name(1)[:3], name(1), api.U{1}, api.ErrForm},
	} {
		was := slices.Clone(c.l)
		got, err := Give(c.l, c.who, c.asset, c.n)
		if err != c.want {
			t.Errorf("%s: %v, want %v", c.what, err, c.want)
		}
		if err != api.OK && !slices.Equal(got, was) {
			t.Errorf("%s: other accounts beside the error", c.what)
		}
		wantFit(t, got)
	}
}

// P16.3: Take leaves less, and no account of 0.
func TestTake(t *testing.T) {
	l := []api.Coin{coin(1, 1, 5), coin(3, 1, 7), {Who: name(3), Asset: name(3), Amount: api.U{0, 1}}}
	for _, c := range []struct {
		what       string
		who, asset int
		n          api.U
		want       []api.Coin
	}{
		{"some of the first", 1, 1, api.U{2}, []api.Coin{coin(1, 1, 3), l[1], l[2]}},
		{"all but 1", 1, 1, api.U{4}, []api.Coin{coin(1, 1, 1), l[1], l[2]}},
		{"all of the first", 1, 1, api.U{5}, []api.Coin{l[1], l[2]}},
		{"all of one between", 3, 1, api.U{7}, []api.Coin{l[0], l[2]}},
		{"all of the last", 3, 3, api.U{0, 1}, []api.Coin{l[0], l[1]}},
		{"with a borrow", 3, 3, api.U{1}, []api.Coin{l[0], l[1], coin(3, 3, top)}},
		{"0", 3, 1, api.U{}, l},
		{"0 of one that has none", 2, 2, api.U{}, l},
	} {
		got, err := Take(l, name(c.who), name(c.asset), c.n)
		if err != api.OK || !slices.Equal(got, c.want) {
			t.Errorf("%s: %v, %v; want %v", c.what, got, err, c.want)
		}
		wantFit(t, got)
	}
}

// P16.3: what can't be taken, in the order of the chapter; beside the error the accounts are as they were.
func TestTakeErrors(t *testing.T) {
	l := []api.Coin{coin(1, 1, 5), coin(1, 2, 100), coin(3, 1, 100)}
	for _, c := range []struct {
		what       string
		who, asset string
		n          api.U
		want       api.Errno
	}{
		{"a short who", name(1)[:19], name(1), api.U{1}, api.ErrForm},
		{"a long who", name(1) + "a", name(1), api.U{}, api.ErrForm},
		{"a short asset", name(1), name(1)[1:], api.U{1}, api.ErrForm},
		{"a long asset", name(1), name(1) + "a", api.U{}, api.ErrForm},
		{"1 more than there is", name(1), name(1), api.U{6}, api.ErrFunds},
		{"far more", name(1), name(1), most(), api.ErrFunds},
		{"more by a high part", name(1), name(1), api.U{0, 0, 1}, api.ErrFunds},
		{"another one's", name(2), name(1), api.U{1}, api.ErrFunds},
		{"of another asset", name(3), name(2), api.U{1}, api.ErrFunds},
		{"what two assets have", name(1), name(1), api.U{105}, api.ErrFunds},
	} {
		got, err := Take(l, c.who, c.asset, c.n)
		if err != c.want || !slices.Equal(got, l) {
			t.Errorf("%s: %v, %v; want %v and all as it was", c.what, got, err, c.want)
		}
	}
	if got, err := Take(nil, name(1), name(1), api.U{1}); err != api.ErrFunds || got != nil {
		t.Errorf("of none: %v, %v", got, err)
	}
}

// P16.1 and the section Ways: the place of a thing in any list, whatever it holds.
func TestPlace(t *testing.T) {
	l := []int{2, 4, 4, 8}
	for sought, want := range map[int]int{1: 0, 2: 0, 3: 1, 4: 1, 5: 3, 8: 3, 9: 4} {
		at, there := place(l, func(n int) int { return sought - n })
		if at != want || there != slices.Contains(l, sought) {
			t.Errorf("%d: %d, %v", sought, at, there)
		}
	}
	if at, there := place(nil, func(string) int { return 0 }); at != 0 || there {
		t.Errorf("in none: %d, %v", at, there)
	}
}

// The chapter's example.
func TestExample(t *testing.T) {
	l, first := Give(nil, name(1), name(1), api.U{5})
	l, second := Take(l, name(1), name(1), api.U{3})
	m, third := Take(l, name(1), name(1), api.U{3})
	if first != api.OK || second != api.OK || third != api.ErrFunds {
		t.Errorf("%v, %v, %v", first, second, third)
	}
	if Get(l, name(1), name(1)) != (api.U{2}) || !slices.Equal(l, m) {
		t.Errorf("%v, %v", l, m)
	}
}
