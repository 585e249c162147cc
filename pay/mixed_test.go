package pay

import (
	"math/big"
	"slices"
	"testing"

	"truce/api"
)

// mixedAmount is a number near an edge as often as not.
func mixedAmount(seed *uint64) api.U {
	switch below(seed, 8) {
	case 0:
		return api.U{}
	case 1:
		return most()
	case 2:
		return api.U{0, 0, 0, 1 << 62}
	case 3:
		return api.U{mix(seed), mix(seed), mix(seed), mix(seed)}
	}
	return api.U{uint64(below(seed, 20))}
}

// mixedAllocs are some allocations, most of them plain.
func mixedAllocs(seed *uint64) []api.Alloc {
	var out []api.Alloc
	for range below(seed, 9) {
		a := api.Alloc{Dest: rep(byte(mix(seed)), 32), Amount: mixedAmount(seed)}
		if below(seed, 4) == 0 {
			a.Kind, a.Left, a.Right = 1+below(seed, 2), rep(byte(mix(seed)), 32), rep(byte(mix(seed)), 32)
		}
		out = append(out, a)
	}
	return out
}

// mixedMoney is now and then just what some of the first ones come to, or 1 beside it.
func mixedMoney(seed *uint64, l []api.Alloc) api.U {
	if below(seed, 3) == 0 {
		return mixedAmount(seed)
	}
	n := sumOf(amountsOf(l[:below(seed, len(l)+1)]))
	n.Add(n, big.NewInt(int64(below(seed, 3)-1)))
	if n.Sign() < 0 || n.BitLen() > 256 {
		return most()
	}
	return small(n)
}

// mixedWhich are places that mostly rise, seldom such as are none.
func mixedWhich(seed *uint64, l []api.Alloc) []int {
	var out []int
	if below(seed, 4) == 0 {
		return nil
	}
	for at, a := range l {
		if below(seed, 2) == 0 && (a.Kind == 0 || below(seed, 6) == 0) {
			out = append(out, at)
		}
	}
	switch below(seed, 10) {
	case 0:
		out = append(out, below(seed, 10))
	case 1:
		out = slices.Insert(out, 0, below(seed, 4)-2)
	}
	return out
}

// P17.1, P17.2: mixed allocations come out as the chapter's words have it, each error met.
func TestMixed(t *testing.T) {
	met := map[api.Errno]int{}
	for seed := range uint64(20000) {
		l := mixedAllocs(&seed)
		held, which := mixedMoney(&seed, l), mixedWhich(&seed, l)
		if got := Afford(held, l); !slices.Equal(got, plainAfford(held, l)) {
			t.Fatalf("Afford of %v for %v: %v", held, l, got)
		}
		wantRest, wantPaid, wantLeft, wantErr := plainTransfer(held, l, which)
		rest, paid, left, err := Transfer(held, l, which)
		if err != wantErr || left != wantLeft || !slices.Equal(rest, wantRest) || !slices.Equal(paid, wantPaid) {
			t.Fatalf("Transfer of %v for %v, %v: %v, %v, %v, error %d", held, l, which, rest, paid, left, err)
		}
		met[err]++
	}
	for _, err := range []api.Errno{api.OK, api.ErrRange, api.ErrForm} {
		if met[err] < 500 {
			t.Errorf("error %d met but %d times", err, met[err])
		}
	}
}

// P17.3: what is paid and what is left are the money; none is paid more than its amount, nor if one ahead is not covered wholly.
func TestNothingIsLost(t *testing.T) {
	done := 0
	for seed := range uint64(8000) {
		l := mixedAllocs(&seed)
		held, which := mixedMoney(&seed, l), mixedWhich(&seed, l)
		rest, paid, left, err := Transfer(held, l, which)
		if err != api.OK {
			continue
		}
		done++
		if all := sumOf(append(slices.Clone(paid), left)); all.Cmp(large(held)) != 0 {
			t.Fatalf("of %v there are %v", held, all)
		}
		if len(rest) != len(l) || len(paid) != len(l) {
			t.Fatalf("%d allocations, %d left, %d paid", len(l), len(rest), len(paid))
		}
		covered := Afford(held, l)
		whole := true
		for i, a := range l {
			if large(paid[i]).Cmp(large(a.Amount)) > 0 || !whole && paid[i] != (api.U{}) {
				t.Fatalf("%v for %v: %v paid", held, l, paid)
			}
			whole = whole && covered[i] == a.Amount
			if sumOf([]api.U{rest[i].Amount, paid[i]}).Cmp(large(a.Amount)) != 0 {
				t.Fatalf("%v became %v, paid %v", a, rest[i], paid[i])
			}
			rest[i].Amount = a.Amount
		}
		if !slices.Equal(rest, l) {
			t.Fatalf("more than amounts changed: %v, %v", l, rest)
		}
	}
	if done < 2000 {
		t.Errorf("paid but %d times", done)
	}
}

// P17.4: one after another, from the first on, each is paid as much as by all at once; so are pairs and what is left behind them.
func TestOneAfterAnother(t *testing.T) {
	for seed := range uint64(8000) {
		l := mixedAllocs(&seed)
		held := mixedMoney(&seed, l)
		wantRest, wantPaid, wantLeft, err := Transfer(held, l, nil)
		if err != api.OK {
			t.Fatalf("all: error %d", err)
		}
		var plain []int
		for at, a := range l {
			if a.Kind == api.PayPlain {
				plain = append(plain, at)
			}
		}
		rest, paid, left := l, make([]api.U, len(l)), held
		for which := range slices.Chunk(plain, 1+below(&seed, 2)) {
			var now []api.U
			if rest, now, left, err = Transfer(left, rest, which); err != api.OK {
				t.Fatalf("%v: error %d", which, err)
			}
			for _, at := range which {
				paid[at] = now[at]
			}
		}
		if !slices.Equal(paid, wantPaid) || left != wantLeft || !slices.Equal(rest, wantRest) {
			t.Fatalf("%v for %v: one by one %v, %v left; all at once %v, %v left", held, l, paid, left, wantPaid, wantLeft)
		}
	}
}

// P17.4: what has been paid wholly is paid no more.
func TestTwice(t *testing.T) {
	rest, _, left, _ := Transfer(api.U{12}, plains(5, 5, 5), []int{1})
	again, paid, left, err := Transfer(left, rest, []int{1})
	if err != api.OK || !slices.Equal(paid, numbers(0, 0, 0)) || left != (api.U{7}) || !slices.Equal(again, rest) {
		t.Errorf("once more: %v, %v, %v, error %d", again, paid, left, err)
	}
	_, paid, left, err = Transfer(left, rest, nil)
	if err != api.OK || !slices.Equal(paid, numbers(5, 0, 2)) || left != (api.U{}) {
		t.Errorf("the others: %v, %v, error %d", paid, left, err)
	}
}

// 0.5: no call changes what it is given, and no answer shares memory with it, or with another answer, beside errors neither.
func TestOwnMemory(t *testing.T) {
	was := []api.Alloc{plain(5), bound(4), plain(3)}
	for what, named := range map[string][]int{"some": {0, 2}, "all": {}, "no place": {0, 9}, "a bound one": {0, 1}} {
		// Room behind the lists shows a call that writes there.
		l := append(make([]api.Alloc, 0, 9), was...)
		which := append(make([]int, 0, 9), named...)
		rest, paid, _, _ := Transfer(api.U{20}, l, which)
		covered := Afford(api.U{20}, l)
		if !slices.Equal(l, was) || l[:4][3] != (api.Alloc{}) || !slices.Equal(which, named) || which[:9][8] != 0 {
			t.Errorf("%s: changed what it was given", what)
		}
		toldRest, toldPaid := slices.Clone(rest), slices.Clone(paid)
		clear(l[:9])
		clear(which[:9])
		clear(covered)
		if !slices.Equal(rest, toldRest) || !slices.Equal(paid, toldPaid) {
			t.Errorf("%s: the answer changed with what was given", what)
		}
		more, _, _, _ := Transfer(api.U{20}, was, named)
		clear(rest)
		clear(paid)
		if !slices.Equal(more, toldRest) {
			t.Errorf("%s: an answer changed with one ahead of it", what)
		}
	}
}

// 0.1: neither more allocations than a call is promised of nor names without end make it panic.
func TestBeyond(t *testing.T) {
	l := slices.Repeat([]api.Alloc{{Amount: most()}}, 5000)
	Afford(most(), l)
	Transfer(most(), l, nil)
	Transfer(most(), l, []int{4999, 5000})
	Transfer(most(), l[:3], make([]int, 100000))
}
