package pay

import (
	"math"
	"slices"
	"testing"

	"truce/api"
)

// P17.1: money covers the first ones first, of each up to its amount.
func TestAfford(t *testing.T) {
	low := most()
	low[0]--
	high := []api.Alloc{{Amount: most()}, {Amount: most()}}
	for _, c := range []struct {
		what string
		held api.U
		l    []api.Alloc
		want []api.U
	}{
		{"none", api.U{7}, nil, nil},
		{"an empty list", api.U{7}, []api.Alloc{}, nil},
		{"no money", api.U{}, plains(5, 0, 5), numbers(0, 0, 0)},
		{"less than the first", api.U{4}, plains(5, 5, 5), numbers(4, 0, 0)},
		{"just the first", api.U{5}, plains(5, 5, 5), numbers(5, 0, 0)},
		{"1 more than the first", api.U{6}, plains(5, 5, 5), numbers(5, 1, 0)},
		{"1 less than all", api.U{14}, plains(5, 5, 5), numbers(5, 5, 4)},
		{"all", api.U{15}, plains(5, 5, 5), numbers(5, 5, 5)},
		{"more than all", api.U{99}, plains(5, 5, 5), numbers(5, 5, 5)},
		{"a small one behind a great one gets nothing", api.U{7}, plains(9, 1), numbers(7, 0)},
		{"one of 0 stops nothing", api.U{7}, plains(0, 3, 0, 9, 0), numbers(0, 3, 0, 4, 0)},
		{"a bound one is covered like any", api.U{7}, []api.Alloc{plain(2), bound(3), plain(9)}, numbers(2, 3, 2)},
		{"one of no kind, too", api.U{7}, []api.Alloc{{Amount: api.U{5}, Kind: 9}, plain(5)}, numbers(5, 2)},
		{"amounts that sum up to more than can be", most(), high, []api.U{most(), {}}},
		{"such, and 1 less", low, high, []api.U{low, {}}},
		{"parts held against each other, the highest first", api.U{0, 0, 0, 1}, []api.Alloc{{Amount: api.U{top, top, top}}, {Amount: api.U{9}}}, []api.U{{top, top, top}, {1}}},
		{"with a borrow", api.U{0, 1}, plains(1, 3), numbers(1, 3)},
	} {
		if got := Afford(c.held, c.l); !slices.Equal(got, c.want) {
			t.Errorf("%s: %v, want %v", c.what, got, c.want)
		}
	}
	if got := Afford(api.U{7}, []api.Alloc{}); got != nil {
		t.Errorf("of an empty list: %v, want none", got)
	}
}

// P17.2: what is paid, of those that are named and of all.
func TestTransfer(t *testing.T) {
	fives := plains(5, 5, 5)
	mixed := []api.Alloc{bound(2), plain(3), bound(4), plain(6), {Dest: "x", Amount: api.U{1}, Kind: 2}}
	for _, c := range []struct {
		what  string
		held  uint64
		l     []api.Alloc
		which []int
		paid  []uint64
		left  uint64
	}{
		{"the first", 7, fives, []int{0}, []uint64{5, 0, 0}, 2},
		{"one of which a part is covered", 7, fives, []int{1}, []uint64{0, 2, 0}, 5},
		{"one that is not covered", 7, fives, []int{2}, []uint64{0, 0, 0}, 7},
		{"the outer ones", 12, fives, []int{0, 2}, []uint64{5, 0, 2}, 5},
		{"the last, all being covered", 15, fives, []int{2}, []uint64{0, 0, 5}, 10},
		{"each by its name", 7, fives, []int{0, 1, 2}, []uint64{5, 2, 0}, 0},
		{"all by no name", 7, fives, nil, []uint64{5, 2, 0}, 0},
		{"all by an empty list", 7, fives, []int{}, []uint64{5, 2, 0}, 0},
		{"all, more than enough", 99, fives, nil, []uint64{5, 5, 5}, 84},
		{"all, no money", 0, fives, nil, []uint64{0, 0, 0}, 0},
		{"all, bound ones passed over", 12, mixed, nil, []uint64{0, 3, 0, 3, 0}, 6},
		{"all, the bound ones' cover being kept", 4, mixed, nil, []uint64{0, 2, 0, 0, 0}, 2},
		{"all, bound ones taking all cover", 2, mixed, nil, []uint64{0, 0, 0, 0, 0}, 2},
		{"a plain one between bound ones", 12, mixed, []int{3}, []uint64{0, 0, 0, 3, 0}, 9},
		{"all plain ones by name", 99, mixed, []int{1, 3}, []uint64{0, 3, 0, 6, 0}, 90},
		{"all of bound ones alone", 9, []api.Alloc{bound(2), bound(3)}, nil, []uint64{0, 0}, 9},
		{"one of 0", 9, plains(0, 3), []int{0}, []uint64{0, 0}, 9},
		{"all of none", 9, nil, nil, nil, 9},
		{"all of an empty list", 9, []api.Alloc{}, []int{}, nil, 9},
	} {
		rest, paid, left, err := Transfer(api.U{c.held}, c.l, c.which)
		if err != api.OK || !slices.Equal(paid, numbers(c.paid...)) || left != (api.U{c.left}) {
			t.Errorf("%s: %v paid, %v left, error %d; want %v, %v", c.what, paid, left, err, c.paid, c.left)
		}
		if want := lessBy(c.l, c.paid...); !slices.Equal(rest, want) {
			t.Errorf("%s: %v, want %v", c.what, rest, want)
		}
	}
	if rest, paid, _, _ := Transfer(api.U{9}, []api.Alloc{}, nil); rest != nil || paid != nil {
		t.Errorf("of an empty list: %v, %v; want none", rest, paid)
	}
}

// P17.2: great numbers are paid with their borrows.
func TestTransferGreat(t *testing.T) {
	l := []api.Alloc{{Dest: "a", Amount: api.U{0, 0, 0, 1}}, {Dest: "b", Amount: most()}}
	rest, paid, left, err := Transfer(most(), l, []int{1})
	want := api.U{top, top, top, top - 1}
	if err != api.OK || !slices.Equal(paid, []api.U{{}, want}) || left != l[0].Amount {
		t.Errorf("%v paid, %v left, error %d", paid, left, err)
	}
	if !slices.Equal(rest, []api.Alloc{l[0], {Dest: "b", Amount: api.U{0, 0, 0, 1}}}) {
		t.Errorf("rest: %v", rest)
	}
	rest, paid, left, err = Transfer(api.U{0, 0, 1}, []api.Alloc{{Amount: api.U{1}}}, nil)
	if err != api.OK || rest[0].Amount != (api.U{}) || paid[0] != (api.U{1}) || left != (api.U{top, top}) {
		t.Errorf("%v, %v, %v, error %d", rest, paid, left, err)
	}
}

// P17.2: what can't be named, in the order of the chapter; beside the error the allocations and the money are as they were, and nothing is paid.
func TestTransferErrors(t *testing.T) {
	l := []api.Alloc{plain(5), bound(4), plain(3), {Amount: api.U{2}, Kind: 2}, {Amount: api.U{1}, Kind: -1}}
	for _, c := range []struct {
		what  string
		l     []api.Alloc
		which []int
		want  api.Errno
	}{
		{"below all places", l, []int{-1}, api.ErrRange},
		{"far below", l, []int{math.MinInt}, api.ErrRange},
		{"behind all places", l, []int{5}, api.ErrRange},
		{"far behind", l, []int{math.MaxInt}, api.ErrRange},
		{"behind a good one", l, []int{0, 5}, api.ErrRange},
		{"ahead of a good one", l, []int{-1, 0}, api.ErrRange},
		{"one twice", l, []int{2, 2}, api.ErrRange},
		{"the first twice", l, []int{0, 0}, api.ErrRange},
		{"falling", l, []int{2, 0}, api.ErrRange},
		{"falling at last", l, []int{0, 2, 1}, api.ErrRange},
		{"of none", nil, []int{0}, api.ErrRange},
		{"of an empty list", []api.Alloc{}, []int{0}, api.ErrRange},
		{"more names than places", plains(1, 2), []int{0, 1, 2}, api.ErrRange},
		{"a bound one", l, []int{1}, api.ErrForm},
		{"a bound one behind a plain one", l, []int{0, 1}, api.ErrForm},
		{"a bound one between", l, []int{0, 1, 2}, api.ErrForm},
		{"one of a kind above", l, []int{2, 3}, api.ErrForm},
		{"one of a kind below", l, []int{4}, api.ErrForm},
		{"a bound one, then no place", l, []int{1, 9}, api.ErrRange},
		{"no place, then a bound one", l, []int{-1, 1}, api.ErrRange},
		{"a bound one twice", l, []int{1, 1}, api.ErrRange},
		{"a bound one, then falling", l, []int{1, 2, 0}, api.ErrRange},
	} {
		rest, paid, left, err := Transfer(api.U{7, 0, 1}, c.l, c.which)
		if err != c.want {
			t.Errorf("%s: error %d, want %d", c.what, err, c.want)
		}
		if !slices.Equal(rest, c.l) || paid != nil || left != (api.U{7, 0, 1}) {
			t.Errorf("%s: %v, %v, %v beside the error", c.what, rest, paid, left)
		}
	}
	if rest, _, _, _ := Transfer(api.U{7}, []api.Alloc{}, []int{0}); rest != nil {
		t.Errorf("of an empty list: %v, want none", rest)
	}
}

// P17.1, P17.2: a thousand allocations, the most that a call is promised of, and the last of them named.
func TestThousand(t *testing.T) {
	l := plains(slices.Repeat([]uint64{3}, 1000)...)
	got := Afford(api.U{2998}, l)
	if len(got) != 1000 || got[998] != (api.U{3}) || got[999] != (api.U{1}) {
		t.Errorf("%d covered, the last ones %v", len(got), got[998:])
	}
	rest, paid, left, err := Transfer(api.U{2998}, l, []int{0, 999})
	if err != api.OK || len(paid) != 1000 || paid[0] != (api.U{3}) || paid[999] != (api.U{1}) || left != (api.U{2994}) {
		t.Errorf("%v left, error %d", left, err)
	}
	if len(rest) != 1000 || rest[0].Amount != (api.U{}) || rest[999].Amount != (api.U{2}) || rest[500] != l[500] {
		t.Errorf("rest: %d", len(rest))
	}
	_, _, _, err = Transfer(api.U{2998}, l, []int{0, 1000})
	if err != api.ErrRange {
		t.Errorf("behind a thousand: error %d", err)
	}
}

// The section Ways: allocations come with their cover, as many as are asked for.
func TestCovers(t *testing.T) {
	l := []api.Alloc{plain(5), bound(5), plain(5)}
	for stop := range 4 {
		var seen []api.Alloc
		var shares []api.U
		for a, share := range covers(api.U{7}, l) {
			if len(seen) == stop {
				break
			}
			seen, shares = append(seen, a), append(shares, share)
		}
		if !slices.Equal(seen, l[:stop]) || !slices.Equal(shares, numbers(5, 2, 0)[:stop]) {
			t.Errorf("left behind %d: %v, %v", stop, seen, shares)
		}
	}
	row := covers(api.U{7}, l)
	for range 2 {
		var shares []api.U
		for _, share := range row {
			shares = append(shares, share)
		}
		if !slices.Equal(shares, numbers(5, 2, 0)) {
			t.Errorf("gone through once more: %v", shares)
		}
	}
}

// The chapter's example.
func TestExample(t *testing.T) {
	l := plains(5, 5, 5)
	if got := Afford(api.U{7}, l); !slices.Equal(got, numbers(5, 2, 0)) {
		t.Errorf("%v", got)
	}
	rest, paid, left, err := Transfer(api.U{7}, l, []int{1})
	if err != api.OK || !slices.Equal(paid, numbers(0, 2, 0)) || left != (api.U{5}) {
		t.Errorf("%v, %v, error %d", paid, left, err)
	}
	if !slices.Equal(amountsOf(rest), numbers(5, 3, 5)) {
		t.Errorf("%v", rest)
	}
}
