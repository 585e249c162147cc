package claim

import (
	"slices"
	"testing"

	"truce/api"
)

// mixedAmount is a number near an edge now and then.
func mixedAmount(seed *uint64) api.U {
	switch below(seed, 12) {
	case 0:
		return api.U{}
	case 1:
		return most()
	case 2:
		return api.U{0, 0, 0, 1 << 63}
	case 3:
		return api.U{mix(seed), mix(seed), mix(seed), mix(seed)}
	}
	return api.U{uint64(below(seed, 20))}
}

// mixedAllocs are some allocations of a few destinations, most of them plain.
func mixedAllocs(seed *uint64) []api.Alloc {
	var out []api.Alloc
	for range below(seed, 10) {
		a := api.Alloc{Dest: dest(byte(below(seed, 5))), Amount: mixedAmount(seed)}
		if below(seed, 3) == 0 {
			a.Kind, a.Left, a.Right = 1, dest(byte(below(seed, 5))), dest(byte(below(seed, 5)))
		}
		if below(seed, 20) == 0 {
			a.Kind = 3*below(seed, 2) - 1
		}
		out = append(out, a)
	}
	return out
}

// mixedShares are mostly two plain ones that come to an amount, seldom others.
func mixedShares(seed *uint64, amount api.U) []api.Alloc {
	first := mixedAmount(seed)
	if second, ok := small(minus(amount, first)); ok && below(seed, 8) > 0 {
		return []api.Alloc{{Dest: dest(1), Amount: first}, {Dest: dest(2), Amount: second}}
	}
	switch below(seed, 8) {
	case 0:
		return mixedAllocs(seed)
	case 1:
		return []api.Alloc{{Amount: first}, {Amount: amount}}
	}
	return []api.Alloc{{Amount: amount}, {}}
}

// mixedPlace is a place of a kind, if there is one behind where it is sought from; seldom any other number.
func mixedPlace(seed *uint64, l []api.Alloc, kind int) int {
	from := below(seed, len(l)+1)
	at := slices.IndexFunc(l[from:], func(a api.Alloc) bool { return a.Kind == kind })
	if at < 0 || below(seed, 12) == 0 {
		return below(seed, len(l)+3) - 1
	}
	return from + at
}

// mixedReclaim and mixedBind try a call of mixed arguments, by the program and by the chapter's words.
func mixedReclaim(t *testing.T, seed *uint64, l []api.Alloc) ([]api.Alloc, api.Errno) {
	t.Helper()
	k := mixedPlace(seed, l, 1)
	var amount api.U
	if k >= 0 && k < len(l) {
		amount = l[k].Amount
	}
	inner := mixedShares(seed, amount)
	want, wantErr := plainReclaim(l, k, inner)
	got, err := Reclaim(l, k, inner)
	if err != wantErr || !slices.Equal(got, want) {
		t.Fatalf("Reclaim of %v, %d, %v: %v, error %d; want %v, error %d", l, k, inner, got, err, want, wantErr)
	}
	return got, err
}

func mixedBind(t *testing.T, seed *uint64, l []api.Alloc) ([]api.Alloc, api.Errno) {
	t.Helper()
	left, right := mixedPlace(seed, l, 0), mixedPlace(seed, l, 0)
	a, b := mixedAmount(seed), mixedAmount(seed)
	// All of both, now and then, so that it is there, but may go over.
	if below(seed, 4) == 0 && left >= 0 && left < len(l) && right >= 0 && right < len(l) {
		a, b = l[left].Amount, l[right].Amount
	}
	channel := dest(byte(below(seed, 5)))
	if below(seed, 20) == 0 {
		channel = (channel + channel)[:31+2*below(seed, 2)]
	}
	want, wantErr := plainBind(l, channel, left, right, a, b)
	got, err := Bind(l, channel, left, right, a, b)
	if err != wantErr || !slices.Equal(got, want) {
		t.Fatalf("Bind of %v, %x, %d, %d, %v, %v: %v, error %d; want %v, error %d", l, channel, left, right, a, b, got, err, want, wantErr)
	}
	return got, err
}

// P18.1, P18.2, P18.3: mixed calls come out as the chapter's words have it, each error met, and the sum of all amounts is kept.
func TestMixed(t *testing.T) {
	type call func(*testing.T, *uint64, []api.Alloc) ([]api.Alloc, api.Errno)
	for _, c := range []struct {
		what string
		do   call
		errs []api.Errno
	}{
		{"Reclaim", mixedReclaim, []api.Errno{api.OK, api.ErrRange, api.ErrForm, api.ErrFunds, api.ErrNone, api.ErrOver}},
		{"Bind", mixedBind, []api.Errno{api.OK, api.ErrRange, api.ErrForm, api.ErrFunds, api.ErrOver, api.ErrMany}},
	} {
		met := map[api.Errno]int{}
		for seed := range uint64(30000) {
			l := mixedAllocs(&seed)
			got, err := c.do(t, &seed, l)
			if all(got).Cmp(all(l)) != 0 {
				t.Fatalf("%s of %v: %v is not as much", c.what, l, got)
			}
			met[err]++
		}
		for _, err := range c.errs {
			if met[err] < 100 {
				t.Errorf("%s: error %d met but %d times", c.what, err, met[err])
			}
		}
		if len(met) != len(c.errs) {
			t.Errorf("%s: met %v", c.what, met)
		}
	}
}

// P18.3: a ledger from which is bound, and to which comes back, over and over, has as much as at first.
func TestNothingIsLost(t *testing.T) {
	done := 0
	for seed := range uint64(300) {
		l := []api.Alloc{plain(1, 500), plain(2, 500), plain(3, 500), {Dest: dest(4), Amount: api.U{1, 2, 3, 4}}}
		was := all(l)
		for range 40 {
			do := mixedBind
			if below(&seed, 2) == 0 {
				do = mixedReclaim
			}
			more, err := do(t, &seed, l)
			if err == api.OK {
				done++
			}
			if l = more; all(l).Cmp(was) != 0 {
				t.Fatalf("%v became %v", was, all(l))
			}
		}
	}
	if done < 3000 {
		t.Errorf("done but %d times", done)
	}
}

// P18.4: what is bound of mixed allocations, their destinations unlike and nowhere ahead, comes back as it was.
func TestMixedThereAndBack(t *testing.T) {
	done := 0
	for seed := range uint64(30000) {
		l := mixedAllocs(&seed)
		left, right := mixedPlace(&seed, l, 0), mixedPlace(&seed, l, 0)
		a, b := mixedAmount(&seed), mixedAmount(&seed)
		more, err := Bind(l, dest(9), left, right, a, b)
		if err != api.OK || l[left].Dest == l[right].Dest {
			continue
		}
		if firstPlain(l, l[left].Dest) != left || firstPlain(l, l[right].Dest) != right {
			continue
		}
		done++
		got, err := Reclaim(more, len(l), []api.Alloc{{Amount: a}, {Amount: b}})
		if err != api.OK || !slices.Equal(got, l) {
			t.Fatalf("%v, by %v, is %v, error %d", l, more, got, err)
		}
	}
	if done < 500 {
		t.Errorf("done but %d times", done)
	}
}

// 0.5: no call changes what it is given, and no answer shares memory with it, beside errors neither.
func TestOwnMemory(t *testing.T) {
	was := []api.Alloc{plain(1, 10), bound(9, 5, 1, 2), plain(2, 20)}
	full := []api.Alloc{{Dest: dest(1), Amount: most()}, bound(9, 5, 1, 2), {Dest: dest(2), Amount: most()}}
	two := shares(4, 1)
	type call func(l, inner []api.Alloc) ([]api.Alloc, api.Errno)
	reclaim := func(k, n int) call {
		return func(l, inner []api.Alloc) ([]api.Alloc, api.Errno) { return Reclaim(l, k, inner[:n]) }
	}
	bind := func(right int, a api.U) call {
		return func(l, _ []api.Alloc) ([]api.Alloc, api.Errno) { return Bind(l, dest(9), 0, right, a, a) }
	}
	for _, c := range []struct {
		was  []api.Alloc
		do   call
		want api.Errno
	}{
		{was, reclaim(1, 2), api.OK},
		{was, reclaim(3, 2), api.ErrRange},
		{was, reclaim(1, 1), api.ErrForm},
		{was[:2], reclaim(1, 2), api.ErrNone},
		{full, reclaim(1, 2), api.ErrOver},
		{was, bind(2, api.U{4}), api.OK},
		{was, bind(3, api.U{4}), api.ErrRange},
		{was, bind(1, api.U{4}), api.ErrForm},
		{was, bind(2, api.U{11}), api.ErrFunds},
		{full, bind(2, most()), api.ErrOver},
		{slices.Repeat(was, 3), bind(2, api.U{4}), api.ErrMany},
	} {
		// Room behind the lists shows a call that writes there.
		l := append(make([]api.Alloc, 0, 20), c.was...)
		inner := append(make([]api.Alloc, 0, 20), two...)
		got, err := c.do(l, inner)
		if err != c.want {
			t.Errorf("error %d, want %d", err, c.want)
		}
		if !slices.Equal(l, c.was) || l[:20][len(l)] != (api.Alloc{}) || !slices.Equal(inner, two) || inner[:20][2] != (api.Alloc{}) {
			t.Errorf("error %d: changed what it was given", err)
		}
		told := slices.Clone(got)
		again, _ := c.do(l, inner)
		clear(l[:20])
		clear(inner[:20])
		clear(again)
		if !slices.Equal(got, told) {
			t.Errorf("error %d: the answer changed with what was given, or with another one", err)
		}
	}
}

// P18.1: of a thousand allocations, the most that a call is promised of, the last is bound; its sides stand at both ends.
func TestThousand(t *testing.T) {
	l := slices.Repeat([]api.Alloc{plain(3, 1)}, 1000)
	l[0], l[998], l[999] = plain(2, 1), plain(1, 1), bound(9, 5, 1, 2)
	got, err := Reclaim(l, 999, shares(2, 3))
	if err != api.OK || len(got) != 999 || got[0] != plain(2, 4) || got[998] != plain(1, 3) || !slices.Equal(got[1:998], l[1:998]) {
		t.Errorf("%d allocations, error %d", len(got), err)
	}
	if got, err = Reclaim(l, 1000, shares(2, 3)); err != api.ErrRange || !slices.Equal(got, l) {
		t.Errorf("behind a thousand: error %d", err)
	}
}

// 0.1: more allocations than a call is promised of make it not panic.
func TestBeyond(t *testing.T) {
	l := slices.Repeat([]api.Alloc{{Amount: most(), Kind: 1}, {Amount: most()}}, 5000)
	Reclaim(l, 9998, l)
	Reclaim(l, 9998, l[1:2])
	Reclaim(l, 9998, []api.Alloc{{Amount: most()}, {}})
	Bind(l, dest(9), 9997, 9999, most(), most())
	Bind(l, dest(9), 9997, 9999, api.U{1}, api.U{1})
}
