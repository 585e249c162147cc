package chain

import (
	"fmt"
	"math"
	"reflect"
	"slices"
	"strings"
	"testing"

	"truce/api"
)

// P21.1: a chain at each of its bounds can be, one beyond it can't.
func TestFit(t *testing.T) {
	half, low := api.U{0, 0, 0, 1 << 63}, api.U{top, top, top, 1<<63 - 1}
	has := func(l ...api.Coin) api.Chain { return api.Chain{Now: 1, Coins: l} }
	counts := func(l ...api.Count) api.Chain { return api.Chain{Now: 1, Counts: l} }
	of := func(w string, of byte, n api.U) api.Coin { return api.Coin{Who: w, Asset: asset(of), Amount: n} }
	both := func(of byte, l ...api.Coin) api.Chain {
		return api.Chain{Now: 1, Coins: l, Judge: api.Judge{Holds: []api.Hold{hold(1, 5, 7), {Channel: ch(2), Asset: asset(of), Amount: half}}}}
	}
	full := api.Chain{Now: 1 << 40, Coins: manyCoins(1000, 1), Judge: api.Judge{Holds: manyHolds(200, 1), Cases: manyCases(200)}, Counts: manyCounts(1000)}
	for _, c := range []struct {
		what string
		c    api.Chain
		want bool
	}{
		{"a fresh one", api.Chain{Now: 1}, true},
		{"empty lists", api.Chain{Now: 1, Coins: []api.Coin{}, Judge: api.Judge{Holds: []api.Hold{}, Cases: []api.Case{}}, Counts: []api.Count{}}, true},
		{"of no moment", api.Chain{}, false},
		{"below 0", api.Chain{Now: -1}, false},
		{"far below 0", api.Chain{Now: math.MinInt}, false},
		{"the last moment", api.Chain{Now: 1 << 40}, true},
		{"1 later", api.Chain{Now: 1<<40 + 1}, false},
		{"far later", api.Chain{Now: math.MaxInt}, false},
		{"as much as may be", full, true},
		{"accounts", has(coin(who(1), 1, 5), coin(who(2), 1, 5)), true},
		{"accounts that fall", has(coin(who(2), 1, 5), coin(who(1), 1, 5)), false},
		{"an account of 0", has(coin(who(1), 1, 0)), false},
		{"1001 accounts", has(manyCoins(1001, 1)...), false},
		{"a hold of 0", api.Chain{Now: 1, Judge: api.Judge{Holds: []api.Hold{hold(1, 1, 0)}}}, false},
		{"201 holds", api.Chain{Now: 1, Judge: api.Judge{Holds: manyHolds(201, 1)}}, false},
		{"a case without a digest", api.Chain{Now: 1, Judge: api.Judge{Cases: []api.Case{{Channel: ch(1)}}}}, false},
		{"all there can be in both", both(1, of(who(1), 1, low)), true},
		{"1 more in both", both(1, of(who(1), 1, half)), false},
		{"1 more in both, by two accounts", both(1, of(who(1), 1, low), coin(who(2), 1, 1)), false},
		{"all there can be of two", both(1, of(who(1), 2, most())), true},
		{"too much of a later asset", both(9, coin(who(1), 5, 7), of(who(1), 9, half)), false},
		{"counts", counts(api.Count{Who: who(1), N: 1}, api.Count{Who: who(2), N: 1 << 40}), true},
		{"a count of 0", counts(api.Count{Who: who(1), N: 1}, api.Count{Who: who(2)}), false},
		{"a count of 0 ahead", counts(api.Count{Who: who(1)}, api.Count{Who: who(2), N: 1}), false},
		{"a count above the last", counts(api.Count{Who: who(1), N: 1<<40 + 1}), false},
		{"a count far above", counts(api.Count{Who: who(1), N: top}), false},
		{"a count of 19 bytes", counts(api.Count{Who: rep(1, 19), N: 1}), false},
		{"a count of 21 bytes", counts(api.Count{Who: rep(1, 21), N: 1}), false},
		{"a count of nobody", counts(api.Count{N: 1}), false},
		{"a count twice", counts(api.Count{Who: who(1), N: 1}, api.Count{Who: who(1), N: 2}), false},
		{"counts that fall", counts(api.Count{Who: who(2), N: 1}, api.Count{Who: who(1), N: 2}), false},
		{"the last count falls", counts(api.Count{Who: who(1), N: 1}, api.Count{Who: who(3), N: 1}, api.Count{Who: who(2), N: 2}), false},
		{"counts that rise by bytes above 127", counts(api.Count{Who: who(127), N: 1}, api.Count{Who: who(128), N: 1}), true},
		{"a thousand counts", counts(manyCounts(1000)...), true},
		{"1001 counts", counts(manyCounts(1001)...), false},
	} {
		if got := Fit(c.c); got != c.want {
			t.Errorf("%s: %v", c.what, got)
		}
		// What the test holds all else against must tell the same.
		if got := plainFit(c.c); got != c.want {
			t.Errorf("%s: by the test's words %v", c.what, got)
		}
	}
}

// P21.1: how much there is of an asset, of chains that are not fit too.
func TestAll(t *testing.T) {
	most := most()
	low := most
	low[0]--
	held := func(l ...api.Hold) api.Judge { return api.Judge{Holds: l} }
	one, two := api.Coin{Who: who(1), Asset: asset(1), Amount: low}, api.Coin{Who: who(1), Asset: asset(1), Amount: most}
	all := api.Hold{Channel: ch(1), Asset: asset(1), Amount: most}
	for _, c := range []struct {
		what string
		c    api.Chain
		of   string
		want api.U
		ok   bool
	}{
		{"none", api.Chain{Now: 1}, asset(1), api.U{}, true},
		{"in accounts", api.Chain{Now: 1, Coins: []api.Coin{coin(who(1), 1, 5), coin(who(1), 2, 9), coin(who(2), 1, 7)}}, asset(1), api.U{12}, true},
		{"held", api.Chain{Now: 1, Judge: held(hold(1, 1, 5), hold(1, 2, 9), hold(2, 1, 7))}, asset(1), api.U{12}, true},
		{"both", api.Chain{Now: 1, Coins: []api.Coin{coin(who(1), 1, 5), coin(who(1), 2, 9)}, Judge: held(hold(1, 1, 6), hold(1, 2, 9))}, asset(1), api.U{11}, true},
		{"what an outcome says is no money", api.Chain{Now: 1, Judge: api.Judge{Cases: []api.Case{known(1, 1, exit(1, plain(ch(2), 5)))}}}, asset(1), api.U{}, true},
		{"of another asset", api.Chain{Now: 1, Coins: []api.Coin{two}, Judge: held(all)}, asset(2), api.U{}, true},
		{"with a carry", api.Chain{Now: 1, Coins: []api.Coin{coin(who(1), 1, top)}, Judge: held(hold(1, 1, 1))}, asset(1), api.U{0, 1}, true},
		{"all there can be", api.Chain{Now: 1, Coins: []api.Coin{one}, Judge: held(hold(1, 1, 1))}, asset(1), most, true},
		{"1 more", api.Chain{Now: 1, Coins: []api.Coin{one}, Judge: held(hold(1, 1, 2))}, asset(1), api.U{}, false},
		{"1 more, in two holds", api.Chain{Now: 1, Coins: []api.Coin{one}, Judge: held(hold(1, 1, 1), hold(2, 1, 1))}, asset(1), api.U{}, false},
		{"too much in accounts", api.Chain{Coins: []api.Coin{two, coin(who(2), 1, 1)}}, asset(1), api.U{}, false},
		{"too much in accounts, more held", api.Chain{Coins: []api.Coin{two, coin(who(2), 1, 1)}, Judge: held(hold(1, 1, 5))}, asset(1), api.U{}, false},
		{"too much held", api.Chain{Judge: held(all, hold(2, 1, 1))}, asset(1), api.U{}, false},
		{"too much held, then more", api.Chain{Judge: held(all, hold(2, 1, 1), hold(3, 1, 1))}, asset(1), api.U{}, false},
		{"all there can be thrice", api.Chain{Coins: []api.Coin{two}, Judge: held(all, all)}, asset(1), api.U{}, false},
		{"too much of another one", api.Chain{Coins: []api.Coin{two, two, coin(who(1), 2, 3)}, Judge: held(all, hold(2, 2, 4))}, asset(2), api.U{7}, true},
		{"no order, some twice", api.Chain{Coins: []api.Coin{coin(who(2), 1, 1), coin(who(1), 1, 2), coin(who(2), 1, 1)}, Judge: held(hold(2, 1, 1), hold(1, 1, 4), hold(1, 1, 4))}, asset(1), api.U{13}, true},
		{"of a name that is none", api.Chain{Coins: []api.Coin{{Asset: "a", Amount: api.U{3}}, {Asset: "ab", Amount: api.U{8}}}, Judge: held(api.Hold{Asset: "a", Amount: api.U{4}})}, "a", api.U{7}, true},
		{"more than may be", api.Chain{Coins: manyCoins(1500, 1), Judge: held(manyHolds(300, 1)...)}, asset(1), api.U{1800}, true},
	} {
		got, ok := All(c.c, c.of)
		if got != c.want || ok != c.ok {
			t.Errorf("%s: %v, %v; want %v, %v", c.what, got, ok, c.want, c.ok)
		}
	}
}

// P21.1: two are the same only if each field is, whether they are fit or not.
func TestSame(t *testing.T) {
	base := func() api.Chain {
		a := api.Alloc{Dest: ch(2), Amount: api.U{1, 2, 3, 4}, Kind: 1, Left: ch(3), Right: ch(4)}
		k := known(1, 4, exit(1, a, plain(ch(5), 5)), exit(2, plain(ch(6), 6)))
		return api.Chain{
			Now: 9, Coins: []api.Coin{coin(who(1), 1, 5), coin(who(2), 1, 6)},
			Judge:  api.Judge{Holds: []api.Hold{hold(1, 1, 5), hold(2, 1, 6)}, Cases: []api.Case{k, known(2, 5)}},
			Counts: []api.Count{{Who: who(1), N: 3}, {Who: who(2), N: 4}},
		}
	}
	for what, change := range map[string]func(c *api.Chain){
		"now":              func(c *api.Chain) { c.Now++ },
		"a coin's who":     func(c *api.Chain) { c.Coins[1].Who = who(3) },
		"a coin's asset":   func(c *api.Chain) { c.Coins[0].Asset = asset(3) },
		"a coin's amount":  func(c *api.Chain) { c.Coins[1].Amount[3]++ },
		"one coin less":    func(c *api.Chain) { c.Coins = c.Coins[:1] },
		"no coins":         func(c *api.Chain) { c.Coins = nil },
		"one coin more":    func(c *api.Chain) { c.Coins = append(c.Coins, coin(who(3), 1, 1)) },
		"coins turned":     func(c *api.Chain) { slices.Reverse(c.Coins) },
		"a hold's channel": func(c *api.Chain) { c.Judge.Holds[1].Channel = ch(3) },
		"a hold's asset":   func(c *api.Chain) { c.Judge.Holds[0].Asset = asset(3) },
		"a hold's amount":  func(c *api.Chain) { c.Judge.Holds[1].Amount[2]++ },
		"one hold less":    func(c *api.Chain) { c.Judge.Holds = c.Judge.Holds[:1] },
		"no holds":         func(c *api.Chain) { c.Judge.Holds = nil },
		"a case's channel": func(c *api.Chain) { c.Judge.Cases[1].Channel = ch(3) },
		"a case's turn":    func(c *api.Chain) { c.Judge.Cases[0].Turn++ },
		"a case's end":     func(c *api.Chain) { c.Judge.Cases[1].Ends++ },
		"a case's digest":  func(c *api.Chain) { c.Judge.Cases[0].Digest = rep(1, 32) },
		"one case less":    func(c *api.Chain) { c.Judge.Cases = c.Judge.Cases[:1] },
		"no cases":         func(c *api.Chain) { c.Judge.Cases = nil },
		"no exits":         func(c *api.Chain) { c.Judge.Cases[0].Exits = nil },
		"one exit less":    func(c *api.Chain) { c.Judge.Cases[0].Exits = c.Judge.Cases[0].Exits[:1] },
		"one exit more":    func(c *api.Chain) { c.Judge.Cases[1].Exits = []api.Exit{{}} },
		"an exit's asset":  func(c *api.Chain) { c.Judge.Cases[0].Exits[1].Asset = asset(3) },
		"no allocations":   func(c *api.Chain) { c.Judge.Cases[0].Exits[1].Allocs = nil },
		"a destination":    func(c *api.Chain) { c.Judge.Cases[0].Exits[0].Allocs[1].Dest = ch(9) },
		"an amount":        func(c *api.Chain) { c.Judge.Cases[0].Exits[1].Allocs[0].Amount[0]++ },
		"a kind":           func(c *api.Chain) { c.Judge.Cases[0].Exits[0].Allocs[0].Kind = 0 },
		"a left side":      func(c *api.Chain) { c.Judge.Cases[0].Exits[0].Allocs[0].Left = ch(9) },
		"a right side":     func(c *api.Chain) { c.Judge.Cases[0].Exits[0].Allocs[0].Right = ch(9) },
		"a count's who":    func(c *api.Chain) { c.Counts[1].Who = who(3) },
		"a count":          func(c *api.Chain) { c.Counts[0].N++ },
		"one count less":   func(c *api.Chain) { c.Counts = c.Counts[:1] },
		"no counts":        func(c *api.Chain) { c.Counts = nil },
	} {
		other := base()
		change(&other)
		if Same(base(), other) || Same(other, base()) {
			t.Errorf("%s: the same", what)
		}
		if !Same(other, twin(other)) {
			t.Errorf("%s: not the same as itself", what)
		}
	}
	empty := api.Chain{Coins: []api.Coin{}, Judge: api.Judge{Holds: []api.Hold{}, Cases: []api.Case{}}, Counts: []api.Count{}}
	if !Same(base(), base()) || !Same(api.Chain{}, empty) || !Same(empty, api.Chain{}) {
		t.Error("not the same")
	}
	one := api.Chain{Judge: api.Judge{Cases: []api.Case{{}}}}
	if other := (api.Chain{Judge: api.Judge{Cases: []api.Case{{Exits: []api.Exit{}}}}}); !Same(one, other) {
		t.Error("an empty list of exits is none")
	}
}

// P21.2: Mint makes more for one address, and changes nothing else.
func TestMint(t *testing.T) {
	c := api.Chain{
		Now: 7, Coins: []api.Coin{coin(who(1), 1, 5), coin(who(3), 1, 7)}, Counts: manyCounts(3),
		Judge: api.Judge{Holds: []api.Hold{hold(1, 1, 5)}, Cases: []api.Case{known(1, 4, exit(1, plain(ch(2), 5)))}},
	}
	for _, m := range []struct {
		what string
		w    string
		of   byte
		n    uint64
		want []api.Coin
	}{
		{"for one that has some", who(1), 1, 4, []api.Coin{coin(who(1), 1, 9), coin(who(3), 1, 7)}},
		{"for one that has none", who(2), 1, 4, []api.Coin{coin(who(1), 1, 5), coin(who(2), 1, 4), coin(who(3), 1, 7)}},
		{"of a new asset", who(3), 0, 4, []api.Coin{coin(who(1), 1, 5), coin(who(3), 0, 4), coin(who(3), 1, 7)}},
		{"for the fees' address", who(255), 0, 4, []api.Coin{coin(who(1), 1, 5), coin(who(3), 1, 7), coin(who(255), 0, 4)}},
		{"nothing", who(1), 1, 0, c.Coins},
		{"nothing for one that has none", who(2), 1, 0, c.Coins},
	} {
		got, err := Mint(c, m.w, asset(m.of), api.U{m.n})
		next := c
		next.Coins = m.want
		want(t, m.what, got, err, next, api.OK)
	}
}

// P21.2: what can't be made, in the chapter's order.
func TestMintErrors(t *testing.T) {
	low, half := most(), api.U{0, 0, 0, 1 << 63}
	low[0] -= 9
	has := func(n api.U, l ...api.Coin) api.Chain {
		return api.Chain{Now: 1, Coins: append([]api.Coin{{Who: who(1), Asset: asset(1), Amount: n}}, l...)}
	}
	held := func(n api.U) api.Chain {
		return api.Chain{Now: 1, Judge: api.Judge{Holds: []api.Hold{{Channel: ch(1), Asset: asset(1), Amount: n}}}}
	}
	both := has(low)
	both.Judge = held(api.U{8}).Judge
	many := api.Chain{Now: 1, Coins: manyCoins(1000, 1)}
	manyHeld := many
	manyHeld.Judge = held(low).Judge
	manyHeld.Judge.Holds[0].Asset = asset(2)
	for _, c := range []struct {
		what  string
		c     api.Chain
		w, of string
		n     api.U
		want  api.Errno
	}{
		{"a who of 19 bytes", has(half), rep(1, 19), asset(1), api.U{1}, api.ErrForm},
		{"a who of 21 bytes", has(half), rep(1, 21), asset(1), api.U{1}, api.ErrForm},
		{"nobody", has(half), "", asset(1), api.U{}, api.ErrForm},
		{"a who that is none, too much", has(half), rep(1, 19), asset(1), half, api.ErrForm},
		{"an asset of 19 bytes", has(half), who(1), rep(1, 19), api.U{1}, api.ErrForm},
		{"an asset of 21 bytes", has(half), who(1), rep(1, 21), api.U{1}, api.ErrForm},
		{"no asset", has(half), who(1), "", most(), api.ErrForm},
		{"too much", has(half), who(1), asset(1), half, api.ErrOver},
		{"too much for another one", has(half), who(2), asset(1), half, api.ErrOver},
		{"all there can be", has(half), who(2), asset(1), api.U{top, top, top, 1<<63 - 1}, api.OK},
		{"all there can be at once", api.Chain{Now: 1}, who(2), asset(1), most(), api.OK},
		{"as much of another asset", has(most()), who(1), asset(2), most(), api.OK},
		{"nothing more than all", has(most()), who(1), asset(1), api.U{}, api.OK},
		{"too much by what is held", held(most()), who(1), asset(1), api.U{1}, api.ErrOver},
		{"too much by both", both, who(1), asset(1), api.U{2}, api.ErrOver},
		{"all there can be by both", both, who(1), asset(1), api.U{1}, api.OK},
		{"the 1001st account", many, who(200), asset(1), api.U{1}, api.ErrMany},
		{"the 1001st account of nothing", many, who(200), asset(1), api.U{}, api.OK},
		{"one of a thousand", many, small(500), asset(1), api.U{1}, api.OK},
		{"another asset for one of a thousand", many, small(500), asset(2), api.U{1}, api.ErrMany},
		{"the 1001st, too much", many, who(200), asset(1), most(), api.ErrOver},
		{"the 1001st, too much by what is held", manyHeld, who(200), asset(2), api.U{10}, api.ErrOver},
		{"the 1001st, all there can be", manyHeld, who(200), asset(2), api.U{9}, api.ErrMany},
	} {
		got, err := Mint(c.c, c.w, c.of, c.n)
		if err != c.want {
			t.Errorf("%s: error %d, want %d", c.what, err, c.want)
		}
		if c.want != api.OK {
			want(t, c.what, got, err, c.c, c.want)
		} else if !Fit(got) {
			t.Errorf("%s: not fit", c.what)
		}
	}
}

// P21.2: time goes on, up to its last moment, and never back.
func TestTick(t *testing.T) {
	c := api.Chain{
		Coins: []api.Coin{coin(who(1), 1, 5)}, Counts: manyCounts(2),
		Judge: api.Judge{Holds: []api.Hold{hold(1, 1, 5)}, Cases: []api.Case{known(1, 4, exit(1, plain(ch(2), 5)))}},
	}
	for _, m := range []struct {
		now, by, want int
		err           api.Errno
	}{
		{1, 0, 1, api.OK},
		{1, 1, 2, api.OK},
		{5, 60, 65, api.OK},
		{5, -1, 5, api.ErrTime},
		{5, math.MinInt, 5, api.ErrTime},
		{1, 1<<40 - 1, 1 << 40, api.OK},
		{1, 1 << 40, 1, api.ErrTime},
		{1, math.MaxInt, 1, api.ErrTime},
		{1 << 40, 0, 1 << 40, api.OK},
		{1 << 40, 1, 1 << 40, api.ErrTime},
		{1 << 40, -1, 1 << 40, api.ErrTime},
		{1 << 40, math.MaxInt, 1 << 40, api.ErrTime},
		{1<<40 - 1, 1, 1 << 40, api.OK},
		{1<<40 - 1, 2, 1<<40 - 1, api.ErrTime},
	} {
		c.Now = m.now
		got, err := Tick(c, m.by)
		next := c
		next.Now = m.want
		want(t, fmt.Sprintf("%d by %d", m.now, m.by), got, err, next, m.err)
	}
}

// P21.2: the number of an address's next transaction.
func TestNext(t *testing.T) {
	c := api.Chain{Now: 1, Counts: []api.Count{{Who: who(1), N: 3}, {Who: who(3), N: 1 << 40}, {Who: who(200), N: 1}}}
	for w, n := range map[string]uint64{
		who(0): 0, who(1): 3, who(2): 0, who(3): 1 << 40, who(4): 0, who(200): 1, who(255): 0,
		"": 0, rep(1, 19): 0, rep(1, 21): 0, rep(3, 19): 0, rep(200, 21): 0,
	} {
		if got := Next(c, w); got != n {
			t.Errorf("%x: %d, want %d", w, got, n)
		}
	}
	if Next(api.Chain{Now: 1}, who(1)) != 0 {
		t.Error("of a fresh chain")
	}
	c.Counts = manyCounts(1000)
	for i := range c.Counts {
		c.Counts[i].N = uint64(i + 1)
	}
	for i := range 1001 {
		if got := Next(c, small(i)); got != uint64(i+1)%1001 {
			t.Errorf("%d of a thousand: %d", i, got)
		}
	}
}

// 0.5: no call changes what it is given, no answer shares memory with it, beside errors neither; lists that are empty are none.
func TestOwnMemory(t *testing.T) {
	f := channel(t, 60, 1)
	v := api.Var{Turn: 5, Exits: []api.Exit{exit(1, plain(ch(9), 3))}}
	c := rich(t, 9, 9, 9)
	c.Judge = api.Judge{
		Holds: []api.Hold{hold(1, 1, 9)},
		Cases: []api.Case{known(1, 4, exit(1, plain(ch(2), 5)), exit(2)), known(2, 4, exit(1, plain(ch(2), 5)))},
	}
	c.Counts = []api.Count{{Who: who(0), N: 1}}
	c.Counts = append(c.Counts, api.Count{Who: who(255), N: 7})
	apply := func(x api.Tx) func(api.Chain) (api.Chain, api.Errno) {
		raw := wrap(t, 0, x)
		return func(c api.Chain) (api.Chain, api.Errno) {
			out, r := Apply(c, raw)
			return out, r.Err
		}
	}
	for what, do := range map[string]func(api.Chain) (api.Chain, api.Errno){
		"mint":              func(c api.Chain) (api.Chain, api.Errno) { return Mint(c, who(9), asset(1), api.U{1}) },
		"mint, error":       func(c api.Chain) (api.Chain, api.Errno) { return Mint(c, who(9), "", api.U{1}) },
		"mint, over, error": func(c api.Chain) (api.Chain, api.Errno) { return Mint(c, who(9), asset(1), most()) },
		"tick":              func(c api.Chain) (api.Chain, api.Errno) { return Tick(c, 1) },
		"tick, error":       func(c api.Chain) (api.Chain, api.Errno) { return Tick(c, -1) },
		"send":              apply(api.Tx{Kind: api.TxSend, To: who(9), Asset: asset(1), Amount: api.U{1}}),
		"send, error":       apply(api.Tx{Kind: api.TxSend, To: who(9), Asset: asset(1), Amount: api.U{10}}),
		"nonce, error":      apply(api.Tx{Kind: api.TxSend, Nonce: 1, To: who(9), Asset: asset(1)}),
		"deposit":           apply(api.Tx{Kind: api.TxDeposit, Channel: ch(9), Asset: asset(1), Amount: api.U{1}}),
		"deposit, error":    apply(api.Tx{Kind: api.TxDeposit, Channel: ch(1), Asset: asset(1), Amount: api.U{1}}),
		"challenge":         apply(api.Tx{Kind: api.TxChallenge, Fixed: f, Proof: byAll(t, f, v)}),
		"conclude, error":   apply(api.Tx{Kind: api.TxConclude, Fixed: f, Proof: byAll(t, f, v)}),
		"transfer":          apply(api.Tx{Kind: api.TxTransfer, Channel: ch(1), Asset: asset(1)}),
		"claim, error":      apply(api.Tx{Kind: api.TxClaim, Channel: ch(1), Asset: asset(1)}),
		"bytes, error": func(c api.Chain) (api.Chain, api.Errno) {
			out, r := Apply(c, "")
			return out, r.Err
		},
	} {
		given := twin(c)
		got, err := do(given)
		if !reflect.DeepEqual(given, c) || !behind(given) {
			t.Errorf("%s: changed what it was given", what)
		}
		told := twin(got)
		wipe(given)
		if !reflect.DeepEqual(got, told) {
			t.Errorf("%s (error %d): the answer changed with what was given", what, err)
		}
		if failed := strings.HasSuffix(what, "error"); failed != (err != api.OK) {
			t.Errorf("%s: error %d", what, err)
		}
		again, _ := do(c)
		wipe(got)
		if !reflect.DeepEqual(again, told) {
			t.Errorf("%s: an answer changed with one ahead of it", what)
		}
	}
	Fit(c)
	All(c, asset(1))
	Same(c, c)
	Next(c, who(1))
}

// 0.7: lists that are empty are none, wherever they stand.
func TestEmptyLists(t *testing.T) {
	empty := api.Chain{Now: 1, Coins: []api.Coin{}, Counts: []api.Count{}, Judge: api.Judge{Holds: []api.Hold{}, Cases: []api.Case{
		{Channel: ch(1), Digest: rep(1, 32), Exits: []api.Exit{}},
		{Channel: ch(2), Digest: rep(1, 32), Exits: []api.Exit{{Asset: asset(1), Allocs: []api.Alloc{}}}},
	}}}
	none := api.Chain{Now: 1, Judge: api.Judge{Cases: []api.Case{
		{Channel: ch(1), Digest: rep(1, 32)},
		{Channel: ch(2), Digest: rep(1, 32), Exits: []api.Exit{{Asset: asset(1)}}},
	}}}
	got, err := Tick(empty, 0)
	want(t, "tick", got, err, none, api.OK)
	got, err = Tick(empty, -1)
	want(t, "tick beside an error", got, err, none, api.ErrTime)
	got, err = Mint(empty, who(1), asset(1), api.U{})
	want(t, "mint", got, err, none, api.OK)
	got, r := Apply(empty, "")
	want(t, "apply", got, r.Err, none, api.ErrShort)
	got, r = Apply(empty, wrap(t, 0, api.Tx{To: who(1), Asset: asset(1)}))
	want(t, "apply, no fee", got, r.Err, none, api.ErrFunds)
}

// 0.1: chains that are not fit make nothing panic.
func TestUnfitChainsEnd(t *testing.T) {
	f := channel(t, 60, 1)
	v := api.Var{Turn: 5, Final: true}
	wild := []api.Tx{
		{To: who(1), Asset: asset(0), Amount: api.U{1}},
		{Kind: api.TxDeposit, Channel: ch(1), Asset: asset(0), Amount: api.U{1}},
		{Kind: api.TxConclude, Fixed: f, Proof: byAll(t, f, v)},
		{Kind: api.TxTransfer, Channel: ch(1), Asset: asset(0), Which: []int{255}},
		{Kind: api.TxClaim, Channel: ch(1), Asset: asset(0), Index: 255},
	}
	full := api.Coin{Who: mine(t, 0), Asset: asset(0), Amount: most()}
	for _, c := range []api.Chain{
		{},
		{Now: math.MinInt, Coins: []api.Coin{full, full, full}},
		{Now: math.MaxInt, Coins: []api.Coin{full}, Judge: api.Judge{Cases: []api.Case{known(1, 1, exit(0, api.Alloc{}, plain("x", 5)))}, Holds: []api.Hold{hold(1, 0, 5)}}},
		{Now: 9, Coins: []api.Coin{full}, Judge: api.Judge{Cases: []api.Case{known(1, 1, exit(0, api.Alloc{}, plain(rep(0, 12), 5)))}, Holds: []api.Hold{hold(1, 0, 5)}}},
		{Now: 9, Coins: []api.Coin{full}, Counts: []api.Count{{Who: mine(t, 0), N: top}, {}, {Who: mine(t, 0)}}},
		{Now: 9, Coins: []api.Coin{full}, Counts: make([]api.Count, 3000), Judge: api.Judge{Holds: make([]api.Hold, 900), Cases: make([]api.Case, 900)}},
		{Now: 9, Coins: append(make([]api.Coin, 3000), full)},
	} {
		Fit(c)
		for _, n := range []int{0, 1, -1, 1 << 40, math.MaxInt, math.MinInt} {
			Tick(c, n)
		}
		for _, w := range []string{"", who(0), mine(t, 0), who(255)} {
			Next(c, w)
			Mint(c, w, asset(0), most())
			All(c, w)
		}
		for _, x := range wild {
			Apply(c, wrap(t, 0, x))
		}
		Same(c, api.Chain{})
	}
}
