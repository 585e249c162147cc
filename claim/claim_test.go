package claim

import (
	"math"
	"slices"
	"testing"

	"truce/api"
)

// P18.1: what was bound is gone, its sides have their shares, all others stay as they were and where they were.
func TestReclaim(t *testing.T) {
	// Between sides 1 and 2; 3 and the one bound to 8 have no part in it.
	mixed := []api.Alloc{plain(3, 10), bound(9, 5, 1, 2), plain(1, 20), bound(8, 6, 2, 1), plain(2, 30)}
	for _, c := range []struct {
		what  string
		l     []api.Alloc
		k     int
		inner []api.Alloc
		want  []api.Alloc
	}{
		{"shared", mixed, 1, shares(4, 1), []api.Alloc{plain(3, 10), plain(1, 24), bound(8, 6, 2, 1), plain(2, 31)}},
		{"all to the left", mixed, 1, shares(5, 0), []api.Alloc{plain(3, 10), plain(1, 25), bound(8, 6, 2, 1), plain(2, 30)}},
		{"all to the right", mixed, 1, shares(0, 5), []api.Alloc{plain(3, 10), plain(1, 20), bound(8, 6, 2, 1), plain(2, 35)}},
		{"the sides the other way round", mixed, 3, shares(2, 4), []api.Alloc{plain(3, 10), bound(9, 5, 1, 2), plain(1, 24), plain(2, 32)}},
		{"the first of all", []api.Alloc{bound(9, 5, 1, 2), plain(1, 1), plain(2, 1)}, 0, shares(2, 3), []api.Alloc{plain(1, 3), plain(2, 4)}},
		{"the last of all", []api.Alloc{plain(1, 1), plain(2, 1), bound(9, 5, 1, 2)}, 2, shares(2, 3), []api.Alloc{plain(1, 3), plain(2, 4)}},
		{"the right side ahead of the left one", []api.Alloc{plain(2, 1), plain(1, 1), bound(9, 5, 1, 2)}, 2, shares(2, 3), []api.Alloc{plain(2, 4), plain(1, 3)}},
		{"of 0", []api.Alloc{plain(1, 0), plain(2, 7), bound(9, 0, 1, 2)}, 2, shares(0, 0), []api.Alloc{plain(1, 0), plain(2, 7)}},
		{"the first ones of each side", []api.Alloc{plain(2, 1), plain(1, 2), plain(1, 3), plain(2, 4), bound(9, 5, 1, 2)}, 4, shares(2, 3), []api.Alloc{plain(2, 4), plain(1, 4), plain(1, 3), plain(2, 4)}},
		{"ones bound to a side are passed over", []api.Alloc{bound(1, 3, 5, 6), bound(2, 3, 5, 6), plain(2, 1), plain(1, 2), bound(9, 5, 1, 2)}, 4, shares(2, 3), []api.Alloc{bound(1, 3, 5, 6), bound(2, 3, 5, 6), plain(2, 4), plain(1, 4)}},
		{"both sides are one", []api.Alloc{plain(1, 1), plain(1, 2), bound(9, 5, 1, 1)}, 2, shares(2, 3), []api.Alloc{plain(1, 6), plain(1, 2)}},
		{"both sides are one, there is but that", []api.Alloc{bound(9, 5, 1, 1), plain(1, 1)}, 0, shares(2, 3), []api.Alloc{plain(1, 6)}},
		{"bound to a side", []api.Alloc{plain(1, 1), plain(2, 1), bound(1, 5, 1, 2)}, 2, shares(2, 3), []api.Alloc{plain(1, 3), plain(2, 4)}},
		{"bound alike twice", []api.Alloc{plain(1, 1), plain(2, 1), bound(9, 5, 1, 2), bound(9, 5, 1, 2)}, 3, shares(2, 3), []api.Alloc{plain(1, 3), plain(2, 4), bound(9, 5, 1, 2)}},
		{"sides of any bytes", []api.Alloc{{}, {Dest: "x"}, {Kind: 1, Amount: api.U{5}, Right: "x"}}, 2, shares(2, 3), []api.Alloc{{Amount: api.U{2}}, {Dest: "x", Amount: api.U{3}}}},
		{"what shares bear beside their amounts", mixed, 1, []api.Alloc{{Amount: api.U{4}, Left: "q", Right: "r"}, {Dest: dest(3), Amount: api.U{1}}}, []api.Alloc{plain(3, 10), plain(1, 24), bound(8, 6, 2, 1), plain(2, 31)}},
	} {
		got, err := Reclaim(c.l, c.k, c.inner)
		if err != api.OK || !slices.Equal(got, c.want) {
			t.Errorf("%s: %v, error %d; want %v", c.what, got, err, c.want)
		}
	}
}

// P18.1: what is wrong, in the order of the chapter; beside the error the allocations are as they were.
func TestReclaimErrors(t *testing.T) {
	l := []api.Alloc{plain(1, 10), bound(9, 5, 1, 2), plain(2, 20), bound(8, 5, 1, 3), bound(7, 5, 3, 2), bound(6, 5, 3, 4), {Amount: api.U{5}, Kind: 2}, {Amount: api.U{5}, Kind: -1}}
	great := func(n api.U) api.Alloc { return api.Alloc{Dest: dest(1), Amount: n} }
	wrapped := []api.Alloc{great(api.U{6}), great(most())}
	for _, c := range []struct {
		what  string
		l     []api.Alloc
		k     int
		inner []api.Alloc
		want  api.Errno
	}{
		{"below all places", l, -1, shares(2, 3), api.ErrRange},
		{"far below", l, math.MinInt, shares(2, 3), api.ErrRange},
		{"behind all places", l, 8, shares(2, 3), api.ErrRange},
		{"far behind", l, math.MaxInt, shares(2, 3), api.ErrRange},
		{"of none", nil, 0, shares(2, 3), api.ErrRange},
		{"of an empty list", []api.Alloc{}, 0, shares(2, 3), api.ErrRange},
		{"no place, no shares", l, 8, nil, api.ErrRange},
		{"a plain one", l, 0, shares(2, 3), api.ErrForm},
		{"a plain one of just that", l, 0, shares(5, 5), api.ErrForm},
		{"a kind above", l, 6, shares(2, 3), api.ErrForm},
		{"a kind below", l, 7, shares(2, 3), api.ErrForm},
		{"no shares", l, 1, nil, api.ErrForm},
		{"one share", l, 1, shares(5), api.ErrForm},
		{"three shares", l, 1, shares(2, 3, 0), api.ErrForm},
		{"the left share bound", l, 1, []api.Alloc{bound(3, 2, 1, 2), plain(3, 3)}, api.ErrForm},
		{"the right share bound", l, 1, []api.Alloc{plain(3, 2), bound(3, 3, 1, 2)}, api.ErrForm},
		{"a share of a kind above", l, 1, []api.Alloc{plain(3, 2), {Amount: api.U{3}, Kind: 2}}, api.ErrForm},
		{"a share of a kind below", l, 1, []api.Alloc{{Amount: api.U{2}, Kind: -1}, plain(3, 3)}, api.ErrForm},
		{"three shares, too much", l, 1, shares(9, 9, 9), api.ErrForm},
		{"1 too few", l, 1, shares(2, 2), api.ErrFunds},
		{"1 too many", l, 1, shares(2, 4), api.ErrFunds},
		{"the left one alone has it", l, 1, shares(5, 1), api.ErrFunds},
		{"nothing", l, 1, shares(0, 0), api.ErrFunds},
		{"a sum that comes round to it", l, 1, wrapped, api.ErrFunds},
		{"1 too few, and no sides", l, 5, shares(2, 2), api.ErrFunds},
		{"no right side", l, 3, shares(2, 3), api.ErrNone},
		{"no right side, nothing for it", l, 3, shares(5, 0), api.ErrNone},
		{"no left side", l, 4, shares(2, 3), api.ErrNone},
		{"no left side, nothing for it", l, 4, shares(0, 5), api.ErrNone},
		{"no sides", l, 5, shares(2, 3), api.ErrNone},
		{"alone", []api.Alloc{bound(9, 5, 1, 2)}, 0, shares(2, 3), api.ErrNone},
		{"a side that is but bound", []api.Alloc{plain(1, 1), bound(2, 1, 3, 4), bound(9, 5, 1, 2)}, 2, shares(2, 3), api.ErrNone},
		{"a side that is of no kind", []api.Alloc{{Dest: dest(1), Kind: 2}, plain(2, 1), bound(9, 5, 1, 2)}, 2, shares(2, 3), api.ErrNone},
		{"the left one over, no right side", []api.Alloc{great(most()), bound(9, 5, 1, 2)}, 1, shares(2, 3), api.ErrNone},
		{"the left one over", []api.Alloc{great(most()), plain(2, 1), bound(9, 5, 1, 2)}, 2, shares(2, 3), api.ErrOver},
		{"the right one over", []api.Alloc{plain(2, 1), great(most()), bound(9, 5, 2, 1)}, 2, shares(2, 3), api.ErrOver},
		{"1 over", []api.Alloc{great(api.U{top - 1, top, top, top}), plain(2, 1), bound(9, 5, 1, 2)}, 2, shares(2, 3), api.ErrOver},
		{"one side, over by both", []api.Alloc{great(api.U{top - 4, top, top, top}), bound(9, 5, 1, 1)}, 1, shares(2, 3), api.ErrOver},
	} {
		got, err := Reclaim(c.l, c.k, c.inner)
		if err != c.want || !slices.Equal(got, c.l) {
			t.Errorf("%s: error %d, want %d; beside it %v", c.what, err, c.want, got)
		}
	}
	if got, _ := Reclaim([]api.Alloc{}, 0, nil); got != nil {
		t.Errorf("of an empty list: %v, want none", got)
	}
}

// P18.1: amounts go up to 2^256 - 1, with their carries.
func TestReclaimGreat(t *testing.T) {
	low := api.U{top - 2, top, top, top}
	l := []api.Alloc{{Dest: dest(1), Amount: low}, {Dest: dest(2), Amount: api.U{top}}, bound(9, 5, 1, 2)}
	got, err := Reclaim(l, 2, shares(2, 3))
	if err != api.OK || got[0].Amount != most() || got[1].Amount != (api.U{2, 1}) {
		t.Errorf("%v, error %d", got, err)
	}
	if got, err = Reclaim(l, 2, shares(3, 2)); err != api.ErrOver || !slices.Equal(got, l) {
		t.Errorf("1 over: %v, error %d", got, err)
	}
	l = []api.Alloc{{Dest: dest(1), Amount: api.U{top - 5, top, top, top}}, bound(9, 5, 1, 1)}
	if got, err = Reclaim(l, 1, shares(2, 3)); err != api.OK || got[0].Amount != most() {
		t.Errorf("one side: %v, error %d", got, err)
	}
	l = []api.Alloc{plain(1, 0), plain(2, 0), {Amount: most(), Kind: 1, Left: dest(1), Right: dest(2)}}
	inner := []api.Alloc{{Amount: api.U{0, 0, 0, 1 << 63}}, {Amount: api.U{top, top, top, 1<<63 - 1}}}
	got, err = Reclaim(l, 2, inner)
	if err != api.OK || got[0].Amount != inner[0].Amount || got[1].Amount != inner[1].Amount {
		t.Errorf("all there can be: %v, error %d", got, err)
	}
}

// P18.2: both have so much less, and behind all stands what is bound, between their destinations.
func TestBind(t *testing.T) {
	l := []api.Alloc{plain(1, 10), bound(8, 6, 2, 1), plain(2, 20), plain(1, 30)}
	for _, c := range []struct {
		what        string
		l           []api.Alloc
		left, right int
		a, b        uint64
		want        []api.Alloc
	}{
		{"some of both", l, 0, 2, 3, 4, []api.Alloc{plain(1, 7), bound(8, 6, 2, 1), plain(2, 16), plain(1, 30), bound(9, 7, 1, 2)}},
		{"the other way round", l, 2, 0, 3, 4, []api.Alloc{plain(1, 6), bound(8, 6, 2, 1), plain(2, 17), plain(1, 30), bound(9, 7, 2, 1)}},
		{"all of both", l, 0, 2, 10, 20, []api.Alloc{plain(1, 0), bound(8, 6, 2, 1), plain(2, 0), plain(1, 30), bound(9, 30, 1, 2)}},
		{"nothing", l, 0, 2, 0, 0, []api.Alloc{plain(1, 10), bound(8, 6, 2, 1), plain(2, 20), plain(1, 30), bound(9, 0, 1, 2)}},
		{"the left one's alone", l, 3, 2, 5, 0, []api.Alloc{plain(1, 10), bound(8, 6, 2, 1), plain(2, 20), plain(1, 25), bound(9, 5, 1, 2)}},
		{"the right one's alone", l, 2, 3, 0, 5, []api.Alloc{plain(1, 10), bound(8, 6, 2, 1), plain(2, 20), plain(1, 25), bound(9, 5, 2, 1)}},
		{"places of one destination", l, 0, 3, 1, 2, []api.Alloc{plain(1, 9), bound(8, 6, 2, 1), plain(2, 20), plain(1, 28), bound(9, 3, 1, 1)}},
		{"just two", l[2:], 0, 1, 1, 2, []api.Alloc{plain(2, 19), plain(1, 28), bound(9, 3, 2, 1)}},
		{"destinations of any bytes", []api.Alloc{{Dest: "x", Amount: api.U{1}}, {}}, 0, 1, 1, 0, []api.Alloc{{Dest: "x"}, {}, {Dest: dest(9), Amount: api.U{1}, Kind: 1, Left: "x"}}},
		{"what plain ones bear beside", []api.Alloc{{Left: "q", Amount: api.U{2}}, {Right: "r"}}, 0, 1, 1, 0, []api.Alloc{{Left: "q", Amount: api.U{1}}, {Right: "r"}, {Dest: dest(9), Amount: api.U{1}, Kind: 1}}},
	} {
		got, err := Bind(c.l, dest(9), c.left, c.right, api.U{c.a}, api.U{c.b})
		if err != api.OK || !slices.Equal(got, c.want) {
			t.Errorf("%s: %v, error %d; want %v", c.what, got, err, c.want)
		}
	}
	// A channel may be bound to whom it is between, and twice.
	twice := []api.Alloc{plain(1, 9), plain(2, 9), bound(1, 3, 1, 2)}
	got, err := Bind(twice, dest(1), 0, 1, api.U{1}, api.U{1})
	if err != api.OK || len(got) != 4 || got[3] != bound(1, 2, 1, 2) {
		t.Errorf("twice: %v, error %d", got, err)
	}
}

// P18.2: what is wrong, in the order of the chapter; beside the error the allocations are as they were.
func TestBindErrors(t *testing.T) {
	l := []api.Alloc{plain(1, 10), bound(8, 60, 2, 1), plain(2, 20), {Dest: dest(3), Amount: api.U{90}, Kind: 2}, {Dest: dest(4), Amount: api.U{90}, Kind: -1}, {Dest: dest(5), Amount: most()}, {Dest: dest(6), Amount: most()}}
	full := slices.Concat(l, l[:1])
	ch, high := dest(9), api.U{0, 0, 0, 1 << 63}
	for _, c := range []struct {
		what        string
		l           []api.Alloc
		channel     string
		left, right int
		a, b        api.U
		want        api.Errno
	}{
		{"left below all places", l, ch, -1, 0, api.U{1}, api.U{1}, api.ErrRange},
		{"right below all places", l, ch, 0, -1, api.U{1}, api.U{1}, api.ErrRange},
		{"left far below", l, ch, math.MinInt, 0, api.U{1}, api.U{1}, api.ErrRange},
		{"left behind all places", l, ch, 7, 0, api.U{1}, api.U{1}, api.ErrRange},
		{"right behind all places", l, ch, 0, 7, api.U{1}, api.U{1}, api.ErrRange},
		{"right far behind", l, ch, 0, math.MaxInt, api.U{1}, api.U{1}, api.ErrRange},
		{"the same", l, ch, 0, 0, api.U{1}, api.U{1}, api.ErrRange},
		{"the same, a bound one", l, ch, 1, 1, api.U{1}, api.U{1}, api.ErrRange},
		{"of none", nil, ch, 0, 1, api.U{1}, api.U{1}, api.ErrRange},
		{"of an empty list", []api.Alloc{}, ch, 0, 1, api.U{}, api.U{}, api.ErrRange},
		{"of one", l[:1], ch, 0, 1, api.U{1}, api.U{1}, api.ErrRange},
		{"no place and no channel", l, "", 0, 7, api.U{1}, api.U{1}, api.ErrRange},
		{"a bound one, then no place", l, ch, 1, 7, api.U{1}, api.U{1}, api.ErrRange},
		{"no channel", l, "", 0, 2, api.U{1}, api.U{1}, api.ErrForm},
		{"a channel of 31 bytes", l, ch[:31], 0, 2, api.U{1}, api.U{1}, api.ErrForm},
		{"a channel of 33 bytes", l, ch + "\t", 0, 2, api.U{1}, api.U{1}, api.ErrForm},
		{"left bound", l, ch, 1, 2, api.U{1}, api.U{1}, api.ErrForm},
		{"right bound", l, ch, 2, 1, api.U{1}, api.U{1}, api.ErrForm},
		{"left of a kind above", l, ch, 3, 2, api.U{1}, api.U{1}, api.ErrForm},
		{"right of a kind above", l, ch, 2, 3, api.U{1}, api.U{1}, api.ErrForm},
		{"right of a kind below", l, ch, 2, 4, api.U{1}, api.U{1}, api.ErrForm},
		{"left has less, right is bound", l, ch, 0, 1, api.U{11}, api.U{1}, api.ErrForm},
		{"no channel, both have less", l, "", 0, 2, most(), most(), api.ErrForm},
		{"left has 1 less", l, ch, 0, 2, api.U{11}, api.U{1}, api.ErrFunds},
		{"right has 1 less", l, ch, 0, 2, api.U{1}, api.U{21}, api.ErrFunds},
		{"left has less by a higher part", l, ch, 0, 2, api.U{0, 1}, api.U{1}, api.ErrFunds},
		{"both have less", l, ch, 0, 2, most(), most(), api.ErrFunds},
		{"left has less, both go over", l, ch, 0, 5, most(), most(), api.ErrFunds},
		{"right has less, both go over", l, ch, 5, 0, most(), most(), api.ErrFunds},
		{"right has less, there are many", full, ch, 0, 2, api.U{1}, api.U{21}, api.ErrFunds},
		{"both go over by 1", l, ch, 5, 6, high, high, api.ErrOver},
		{"both are all there can be", l, ch, 5, 6, most(), most(), api.ErrOver},
		{"one is 1", l, ch, 5, 0, most(), api.U{1}, api.ErrOver},
		{"both go over, there are many", full, ch, 5, 6, most(), most(), api.ErrOver},
		{"there are 8", full, ch, 0, 2, api.U{1}, api.U{1}, api.ErrMany},
		{"there are 8, of nothing", full, ch, 0, 2, api.U{}, api.U{}, api.ErrMany},
		{"there are 9", slices.Concat(full, l[:1]), ch, 0, 8, api.U{1}, api.U{1}, api.ErrMany},
		{"there are 1000", slices.Repeat(l[:1], 1000), ch, 998, 999, api.U{1}, api.U{1}, api.ErrMany},
	} {
		got, err := Bind(c.l, c.channel, c.left, c.right, c.a, c.b)
		if err != c.want || !slices.Equal(got, c.l) {
			t.Errorf("%s: error %d, want %d; beside it %v", c.what, err, c.want, got)
		}
	}
	if got, _ := Bind([]api.Alloc{}, ch, 0, 1, api.U{}, api.U{}); got != nil {
		t.Errorf("of an empty list: %v, want none", got)
	}
	// At 7, the most that has room, it goes.
	if got, err := Bind(l, ch, 0, 2, api.U{10}, api.U{20}); err != api.OK || len(got) != 8 {
		t.Errorf("of 7: %v, error %d", got, err)
	}
}

// P18.2: great shares, with their borrows and carries.
func TestBindGreat(t *testing.T) {
	l := []api.Alloc{{Dest: dest(1), Amount: api.U{0, 0, 0, 1}}, {Dest: dest(2), Amount: most()}}
	b := api.U{top, top, top, top - 1}
	got, err := Bind(l, dest(9), 0, 1, api.U{1}, b)
	if err != api.OK || got[0].Amount != (api.U{top, top, top}) || got[1].Amount != (api.U{0, 0, 0, 1}) || got[2].Amount != (api.U{0, 0, 0, top}) {
		t.Errorf("%v, error %d", got, err)
	}
	got, err = Bind(l, dest(9), 0, 1, api.U{}, most())
	if err != api.OK || got[1].Amount != (api.U{}) || got[2].Amount != most() {
		t.Errorf("all there can be: %v, error %d", got, err)
	}
}

// P18.4: what was bound and comes back by the shares that it was made of leaves all as it was; where a destination stands ahead, or both are one, it need not.
func TestThereAndBack(t *testing.T) {
	l := []api.Alloc{bound(1, 2, 3, 4), plain(3, 8), plain(1, 10), plain(2, 20), plain(1, 30)}
	back := func(left, right int) []api.Alloc {
		more, err := Bind(l, dest(9), left, right, api.U{4}, api.U{5})
		if err != api.OK {
			t.Fatalf("error %d", err)
		}
		got, err := Reclaim(more, 5, shares(4, 5))
		if err != api.OK {
			t.Fatalf("back: error %d", err)
		}
		return got
	}
	for _, at := range [][2]int{{2, 3}, {3, 2}, {1, 2}, {3, 1}} {
		if got := back(at[0], at[1]); !slices.Equal(got, l) {
			t.Errorf("%v: %v", at, got)
		}
	}
	if got := back(4, 3); got[2] != plain(1, 14) || got[3] != plain(2, 20) || got[4] != plain(1, 26) {
		t.Errorf("one stands ahead: %v", got)
	}
	if got := back(2, 4); got[2] != plain(1, 15) || got[4] != plain(1, 25) {
		t.Errorf("both are one: %v", got)
	}
}

// The section Ways: each step is for the left side, then the right one, and nothing comes behind the first error.
func TestBothSides(t *testing.T) {
	for stop := range 7 {
		var seen []int
		step := func(row int) func(int) api.Errno {
			return func(side int) api.Errno {
				seen = append(seen, 2*row+side)
				return errIf(2*row+side == stop, api.Errno(stop+1))
			}
		}
		want := api.OK
		if stop < 6 {
			want = api.Errno(stop + 1)
		}
		if err := bothSides(step(0), step(1), step(2)); err != want || !slices.Equal(seen, []int{0, 1, 2, 3, 4, 5}[:min(stop+1, 6)]) {
			t.Errorf("wrong at %d: %v, error %d", stop, seen, err)
		}
	}
	if err := bothSides(); err != api.OK {
		t.Errorf("no steps: error %d", err)
	}
}

// The chapter's example.
func TestExample(t *testing.T) {
	l := []api.Alloc{plain(1, 5), plain(2, 5)}
	more, err := Bind(l, dest(9), 0, 1, api.U{2}, api.U{3})
	if err != api.OK || !slices.Equal(more, []api.Alloc{plain(1, 3), plain(2, 2), bound(9, 5, 1, 2)}) {
		t.Errorf("%v, error %d", more, err)
	}
	got, err := Reclaim(more, 2, shares(4, 1))
	if err != api.OK || !slices.Equal(got, []api.Alloc{plain(1, 7), plain(2, 3)}) {
		t.Errorf("%v, error %d", got, err)
	}
}
