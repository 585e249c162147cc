package judge

import (
	"math"
	"reflect"
	"slices"
	"testing"

	"truce/api"
)

// lessBy are allocations whose amounts are less by so much.
func lessBy(l []api.Alloc, by ...uint64) []api.Alloc {
	out := slices.Clone(l)
	for i, n := range by {
		out[i].Amount[0] -= n
	}
	return out
}

// P19.5: what is paid goes to addresses as coins, to channels as what is held for them; what is left stays held, and what is left to pay.
func TestTransfer(t *testing.T) {
	l := []api.Alloc{plain(to(1), 5), plain(ch(3), 4), bound(7, 6, to(1), to(2)), plain(to(2), 3), plain(to(1), 2)}
	others := []api.Exit{exit(1, plain(to(9), 9)), exit(3, plain(to(9), 9))}
	j := func(l []api.Alloc, holds ...api.Hold) api.Judge {
		return api.Judge{Holds: holds, Cases: []api.Case{known(1, 8, exit(2, plain(to(9), 9))), known(2, 9, others[0], exit(2, l...), others[1]), known(3, 8)}}
	}
	for _, c := range []struct {
		what  string
		held  uint64
		which []int
		paid  []uint64
		holds []api.Hold
		coins []api.Coin
	}{
		{"all that are plain", 20, nil, []uint64{5, 4, 0, 3, 2}, []api.Hold{hold(2, 2, 6), hold(3, 2, 4)}, []api.Coin{coin(1, 2, 5), coin(2, 2, 3), coin(1, 2, 2)}},
		{"all, by an empty list", 20, []int{}, []uint64{5, 4, 0, 3, 2}, []api.Hold{hold(2, 2, 6), hold(3, 2, 4)}, []api.Coin{coin(1, 2, 5), coin(2, 2, 3), coin(1, 2, 2)}},
		{"more than there is to pay", 22, nil, []uint64{5, 4, 0, 3, 2}, []api.Hold{hold(2, 2, 8), hold(3, 2, 4)}, []api.Coin{coin(1, 2, 5), coin(2, 2, 3), coin(1, 2, 2)}},
		{"all that there is for", 16, nil, []uint64{5, 4, 0, 1, 0}, []api.Hold{hold(2, 2, 6), hold(3, 2, 4)}, []api.Coin{coin(1, 2, 5), coin(2, 2, 1)}},
		{"just the first", 5, nil, []uint64{5, 0, 0, 0, 0}, nil, []api.Coin{coin(1, 2, 5)}},
		{"a part of the first", 3, nil, []uint64{3, 0, 0, 0, 0}, nil, []api.Coin{coin(1, 2, 3)}},
		{"a part of the channel's", 7, nil, []uint64{5, 2, 0, 0, 0}, []api.Hold{hold(3, 2, 2)}, []api.Coin{coin(1, 2, 5)}},
		{"an address alone", 20, []int{3}, []uint64{0, 0, 0, 3, 0}, []api.Hold{hold(2, 2, 17)}, []api.Coin{coin(2, 2, 3)}},
		{"a channel alone", 20, []int{1}, []uint64{0, 4, 0, 0, 0}, []api.Hold{hold(2, 2, 16), hold(3, 2, 4)}, nil},
		{"both ends", 20, []int{0, 4}, []uint64{5, 0, 0, 0, 2}, []api.Hold{hold(2, 2, 13)}, []api.Coin{coin(1, 2, 5), coin(1, 2, 2)}},
		{"what is not covered", 15, []int{3, 4}, []uint64{0, 0, 0, 0, 0}, []api.Hold{hold(2, 2, 15)}, nil},
		{"nothing held", 0, nil, []uint64{0, 0, 0, 0, 0}, nil, nil},
	} {
		var holds []api.Hold
		if c.held > 0 {
			holds = []api.Hold{hold(2, 2, c.held)}
		}
		got, coins, err := Transfer(j(l, holds...), 5, ch(2), asset(2), c.which)
		want(t, c.what, got, err, j(lessBy(l, c.paid...), c.holds...), api.OK)
		if !reflect.DeepEqual(coins, c.coins) {
			t.Errorf("%s: %v, want %v", c.what, coins, c.coins)
		}
	}
}

// P19.5: payments to channels come on top of what is held there, of that asset alone; to itself, to one another time, to one that is not known.
func TestTransferToChannels(t *testing.T) {
	l := []api.Alloc{plain(ch(4), 1), plain(ch(2), 2), plain(ch(1), 3), plain(ch(4), 4), plain(rep(0, 11)+rep(5, 21), 5), plain(rep(0, 32), 6), plain(ch(2), 0)}
	j := api.Judge{
		Holds: []api.Hold{hold(1, 1, 50), hold(1, 2, 60), hold(2, 1, 70), hold(2, 2, 21), hold(2, 3, 80), hold(4, 2, 90)},
		Cases: []api.Case{known(2, 9, exit(2, l...))},
	}
	got, coins, err := Transfer(j, 5, ch(2), asset(2), nil)
	nearly := api.Hold{Channel: rep(0, 11) + rep(5, 21), Asset: asset(2), Amount: api.U{5}}
	want(t, "paid", got, err, api.Judge{
		Holds: []api.Hold{nearly, hold(1, 1, 50), hold(1, 2, 63), hold(2, 1, 70), hold(2, 2, 2), hold(2, 3, 80), hold(4, 2, 95)},
		Cases: []api.Case{known(2, 9, exit(2, lessBy(l, 1, 2, 3, 4, 5, 6)...))},
	}, api.OK)
	if !slices.Equal(coins, []api.Coin{{Who: rep(0, 20), Asset: asset(2), Amount: api.U{6}}}) {
		t.Errorf("coins: %v", coins)
	}
}

// P19.5: what is left to pay is paid later, when there is more; nothing is paid twice.
func TestTransferLater(t *testing.T) {
	j := api.Judge{Holds: []api.Hold{hold(1, 1, 5)}, Cases: []api.Case{known(1, 9, exit(1, plain(to(1), 4), plain(to(2), 4)))}}
	j, coins, err := Transfer(j, 5, ch(1), asset(1), nil)
	if err != api.OK || !slices.Equal(coins, []api.Coin{coin(1, 1, 4), coin(2, 1, 1)}) {
		t.Fatalf("at first: %v, error %d", coins, err)
	}
	if j, coins, err = Transfer(j, 6, ch(1), asset(1), nil); err != api.OK || coins != nil {
		t.Errorf("at once: %v, error %d", coins, err)
	}
	j, _ = Deposit(j, ch(1), asset(1), api.U{}, api.U{9})
	j, coins, err = Transfer(j, 7, ch(1), asset(1), nil)
	if err != api.OK || !slices.Equal(coins, []api.Coin{coin(2, 1, 3)}) {
		t.Errorf("later: %v, error %d", coins, err)
	}
	want(t, "in the end", j, err, api.Judge{Holds: []api.Hold{hold(1, 1, 6)}, Cases: []api.Case{known(1, 9, exit(1, plain(to(1), 0), plain(to(2), 0)))}}, api.OK)
}

// P19.5: what is wrong, in the order of the chapter; beside the error the judge is as it was, and no coin is told.
func TestTransferErrors(t *testing.T) {
	open, never := known(3, 9, exit(1, plain(to(1), 5))), known(4, 9, exit(1, plain(to(1), 5)))
	open.Ends, never.Ends = 6, 0
	j := api.Judge{
		Holds: []api.Hold{hold(1, 1, 5), hold(2, 1, 5), hold(3, 1, 5), hold(4, 1, 5), hold(9, 1, 5)},
		Cases: []api.Case{known(1, 9, exit(1, plain(to(1), 5), bound(7, 6, to(1), to(2)))), known(2, 9), open, never},
	}
	for _, c := range []struct {
		what           string
		channel, asset string
		which          []int
		want           api.Errno
	}{
		{"no case", ch(9), asset(1), nil, api.ErrOpen},
		{"no channel", "", asset(1), nil, api.ErrOpen},
		{"a channel of 31 bytes", rep(1, 31), asset(1), nil, api.ErrOpen},
		{"a challenge that runs", ch(3), asset(1), nil, api.ErrOpen},
		{"no challenge", ch(4), asset(1), nil, api.ErrOpen},
		{"a challenge that runs, no exit", ch(3), asset(2), nil, api.ErrOpen},
		{"a challenge that runs, no place", ch(3), asset(1), []int{9}, api.ErrOpen},
		{"another asset", ch(1), asset(2), nil, api.ErrNone},
		{"no asset", ch(1), "", nil, api.ErrNone},
		{"no exits", ch(2), asset(1), nil, api.ErrNone},
		{"another asset, no place", ch(1), asset(2), []int{9}, api.ErrNone},
		{"no place", ch(1), asset(1), []int{2}, api.ErrRange},
		{"far from a place", ch(1), asset(1), []int{math.MinInt}, api.ErrRange},
		{"one twice", ch(1), asset(1), []int{0, 0}, api.ErrRange},
		{"a bound one", ch(1), asset(1), []int{0, 1}, api.ErrForm},
	} {
		got, coins, err := Transfer(j, 5, c.channel, c.asset, c.which)
		want(t, c.what, got, err, j, c.want)
		if coins != nil {
			t.Errorf("%s: coins %v", c.what, coins)
		}
	}
}

// P19.5: how many holds there are is asked in the end.
func TestTransferMany(t *testing.T) {
	for _, c := range []struct {
		what  string
		n     int
		held  uint64
		pays  []api.Alloc
		want  api.Errno
		holds int
	}{
		{"198 and its own, to two", 198, 9, []api.Alloc{plain(ch(200), 1), plain(ch(201), 1)}, api.ErrMany, 0},
		{"198 and its own, all of it to two", 198, 2, []api.Alloc{plain(ch(200), 1), plain(ch(201), 1)}, api.OK, 200},
		{"199 and its own, to one", 199, 9, []api.Alloc{plain(to(1), 1), plain(ch(200), 1)}, api.ErrMany, 0},
		{"199 and its own, all of it to one", 199, 1, []api.Alloc{plain(ch(200), 1)}, api.OK, 200},
		{"199 and its own, all of it to two", 199, 2, []api.Alloc{plain(ch(200), 1), plain(ch(201), 1)}, api.ErrMany, 0},
		{"199 and its own, to one twice", 199, 2, []api.Alloc{plain(ch(200), 1), plain(ch(200), 1)}, api.OK, 200},
		{"199 and its own, to one that is there", 199, 9, []api.Alloc{plain(manyHolds(4, 1)[3].Channel, 1)}, api.OK, 200},
		{"199 and its own, to itself", 199, 9, []api.Alloc{plain(ch(1), 1)}, api.OK, 200},
		{"199 and its own, all of it to itself", 199, 9, []api.Alloc{plain(ch(1), 9)}, api.OK, 200},
		{"199 and its own, to itself and another", 199, 9, []api.Alloc{plain(ch(1), 1), plain(ch(200), 8)}, api.ErrMany, 0},
		{"199 and its own, to an address", 199, 9, []api.Alloc{plain(to(1), 1)}, api.OK, 200},
		{"199 and its own, nothing to another", 199, 9, []api.Alloc{plain(ch(200), 0)}, api.OK, 200},
		{"200, nothing held to pay with", 200, 0, []api.Alloc{plain(ch(200), 1)}, api.OK, 200},
	} {
		j := api.Judge{Holds: manyHolds(c.n, 1), Cases: []api.Case{known(1, 9, exit(1, c.pays...))}}
		if c.held > 0 {
			j.Holds = slices.Concat([]api.Hold{hold(1, 1, c.held)}, j.Holds)
		}
		got, coins, err := Transfer(j, 5, ch(1), asset(1), nil)
		if err != c.want || !Fit(got) {
			t.Errorf("%s: error %d, want %d", c.what, err, c.want)
		}
		if err == api.OK && len(got.Holds) != c.holds {
			t.Errorf("%s: %d holds", c.what, len(got.Holds))
		}
		if err != api.OK && (!reflect.DeepEqual(got, j) || coins != nil) {
			t.Errorf("%s: beside the error %v, %v", c.what, got, coins)
		}
	}
}

// P19.5: great amounts are paid, with their borrows and carries.
func TestTransferGreat(t *testing.T) {
	high := api.U{0, 0, 0, 1 << 63}
	l := []api.Alloc{{Dest: ch(2), Amount: api.U{1}}, {Dest: to(1), Amount: high}}
	j := api.Judge{
		Holds: []api.Hold{{Channel: ch(1), Asset: asset(1), Amount: high}, {Channel: ch(2), Asset: asset(1), Amount: api.U{top, top}}},
		Cases: []api.Case{known(1, 9, exit(1, l...))},
	}
	got, coins, err := Transfer(j, 5, ch(1), asset(1), []int{0})
	less := api.U{top, top, top, 1<<63 - 1}
	want(t, "to the channel", got, err, api.Judge{
		Holds: []api.Hold{{Channel: ch(1), Asset: asset(1), Amount: less}, {Channel: ch(2), Asset: asset(1), Amount: api.U{0, 0, 1}}},
		Cases: []api.Case{known(1, 9, exit(1, plain(ch(2), 0), l[1]))},
	}, api.OK)
	if coins != nil {
		t.Errorf("coins: %v", coins)
	}
	got, coins, err = Transfer(got, 5, ch(1), asset(1), []int{1})
	want(t, "to the address", got, err, api.Judge{
		Holds: []api.Hold{{Channel: ch(2), Asset: asset(1), Amount: api.U{0, 0, 1}}},
		Cases: []api.Case{known(1, 9, exit(1, plain(ch(2), 0), plain(to(1), 1)))},
	}, api.OK)
	if !slices.Equal(coins, []api.Coin{{Who: who(1), Asset: asset(1), Amount: less}}) {
		t.Errorf("coins: %v", coins)
	}
}

// P19.6: what a ledger has bound goes to its sides by the inner channel's shares; all else stays, the inner channel too.
func TestClaim(t *testing.T) {
	inner := known(2, 3, exit(1, plain(to(8), 7), plain(to(9), 7)), exit(2, plain(to(8), 4), plain(ch(5), 1)))
	ledger := func(l ...api.Alloc) api.Judge {
		return api.Judge{Holds: []api.Hold{hold(1, 2, 30)}, Cases: []api.Case{known(1, 9, exit(1, plain(to(1), 1), bound(2, 5, to(1), to(1))), exit(2, l...)), inner, known(3, 9)}}
	}
	for _, c := range []struct {
		what string
		j    api.Judge
		k    int
		want api.Judge
	}{
		{"behind its sides", ledger(plain(to(1), 10), plain(to(2), 10), bound(2, 5, to(1), to(2))), 2, ledger(plain(to(1), 14), plain(to(2), 11))},
		{"ahead of its sides", ledger(bound(2, 5, to(1), to(2)), plain(to(1), 10), plain(to(2), 10)), 0, ledger(plain(to(1), 14), plain(to(2), 11))},
		{"one of two", ledger(bound(2, 5, to(1), to(2)), plain(to(1), 10), plain(to(2), 10), bound(2, 5, to(2), to(1))), 3, ledger(bound(2, 5, to(1), to(2)), plain(to(1), 11), plain(to(2), 14))},
		{"between channels", ledger(plain(ch(7), 0), bound(2, 5, ch(7), ch(8)), plain(ch(8), 0)), 1, ledger(plain(ch(7), 4), plain(ch(8), 1))},
	} {
		got, err := Claim(c.j, 5, ch(1), asset(2), c.k)
		want(t, c.what, got, err, c.want, api.OK)
	}
	itself := api.Judge{Cases: []api.Case{known(1, 9, exit(1, plain(to(1), 0), plain(to(2), 0), bound(1, 0, to(1), to(2))))}}
	got, err := Claim(itself, 5, ch(1), asset(1), 2)
	want(t, "bound to itself", got, err, itself, api.ErrForm)
}

// P19.6: what is wrong, in the order of the chapter; beside the error the judge is as it was.
func TestClaimErrors(t *testing.T) {
	open, never := known(3, 9, exit(1, plain(to(1), 4), plain(to(2), 1))), known(4, 9, exit(1, plain(to(1), 4), plain(to(2), 1)))
	open.Ends, never.Ends = 6, 0
	j := api.Judge{
		Holds: []api.Hold{hold(1, 1, 30)},
		Cases: []api.Case{
			known(1, 9, exit(1, plain(to(1), 5), bound(2, 5, to(1), to(2)), bound(3, 5, to(1), to(1)), bound(4, 5, to(1), to(1)), bound(9, 5, to(1), to(1)), bound(5, 5, to(1), to(1)), plain(ch(2), 5), bound(2, 6, to(1), to(1)))),
			known(2, 9, exit(1, plain(to(1), 4), plain(to(2), 1)), exit(2, plain(to(1), 4), plain(to(2), 1))), open, never, known(5, 9, exit(2, plain(to(1), 4), plain(to(2), 1))),
		},
	}
	over := api.Judge{Cases: []api.Case{known(1, 9, exit(1, api.Alloc{Dest: to(1), Amount: api.U{top - 5, top, top, top}}, bound(2, 5, to(1), to(1)))), known(2, 9, exit(1, plain(to(1), 4), plain(to(2), 1)))}}
	for _, c := range []struct {
		what           string
		j              api.Judge
		channel, asset string
		k              int
		want           api.Errno
	}{
		{"no case", j, ch(9), asset(1), 0, api.ErrOpen},
		{"no channel", j, "", asset(1), 0, api.ErrOpen},
		{"a challenge that runs", j, ch(3), asset(1), 0, api.ErrOpen},
		{"no challenge", j, ch(4), asset(1), 0, api.ErrOpen},
		{"a challenge that runs, no exit", j, ch(3), asset(2), 0, api.ErrOpen},
		{"a challenge that runs, no place", j, ch(3), asset(1), 9, api.ErrOpen},
		{"another asset", j, ch(1), asset(2), 1, api.ErrNone},
		{"no asset", j, ch(1), "", 1, api.ErrNone},
		{"another asset, no place", j, ch(1), asset(2), 9, api.ErrNone},
		{"below all places", j, ch(1), asset(1), -1, api.ErrRange},
		{"far below", j, ch(1), asset(1), math.MinInt, api.ErrRange},
		{"behind all places", j, ch(1), asset(1), 8, api.ErrRange},
		{"far behind", j, ch(1), asset(1), math.MaxInt, api.ErrRange},
		{"a challenge that runs there", j, ch(1), asset(1), 2, api.ErrOpen},
		{"no challenge there", j, ch(1), asset(1), 3, api.ErrOpen},
		{"no case there", j, ch(1), asset(1), 4, api.ErrOpen},
		{"an address", j, ch(1), asset(1), 0, api.ErrOpen},
		{"not bound to a channel that has ended", j, ch(1), asset(1), 6, api.ErrForm},
		{"no such exit there", j, ch(1), asset(1), 5, api.ErrForm},
		{"other shares", j, ch(1), asset(1), 7, api.ErrFunds},
		{"no side", j, ch(1), asset(1), 1, api.ErrNone},
		{"just not over", over, ch(1), asset(1), 1, api.OK},
	} {
		got, err := Claim(c.j, 5, c.channel, c.asset, c.k)
		if err != c.want || err != api.OK && !reflect.DeepEqual(got, c.j) {
			t.Errorf("%s: error %d, want %d; beside it %v", c.what, err, c.want, got)
		}
	}
}

// P19.5, P19.6: bound money comes out of a ledger: claimed, then paid, no more than was held.
func TestClaimThenPaid(t *testing.T) {
	j := api.Judge{
		Holds: []api.Hold{hold(1, 1, 20)},
		Cases: []api.Case{known(1, 9, exit(1, plain(to(1), 10), plain(to(2), 5), bound(2, 5, to(1), to(2)))), known(2, 9, exit(1, plain(to(1), 1), plain(to(2), 4)))},
	}
	j, err := Claim(j, 5, ch(1), asset(1), 2)
	if err != api.OK {
		t.Fatalf("claim: error %d", err)
	}
	j, coins, err := Transfer(j, 5, ch(1), asset(1), nil)
	if err != api.OK || !slices.Equal(coins, []api.Coin{coin(1, 1, 11), coin(2, 1, 9)}) || j.Holds != nil {
		t.Errorf("transfer: %v, %v, error %d", j, coins, err)
	}
	same, err := Claim(j, 5, ch(1), asset(1), 2)
	want(t, "once more", same, err, j, api.ErrRange)
}
