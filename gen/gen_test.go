package gen

import (
	"fmt"
	"math"
	"testing"

	"truce/api"
	"truce/codes"
	"truce/rule"
	"truce/state"
	"truce/vm"
)

// P31.1, P31.2: the chapter's example.
func TestExample(t *testing.T) {
	if n := Number(0, 1); n != 167951807 {
		t.Errorf("Number of 0, 1 is %d", n)
	}
	f, l := Channel(0)
	if f.Nonce != 807 || f.App != App(1) || f.Time != 18 || l[0].Allocs[0].Amount != (api.U{16}) || l[0].Allocs[1].Amount != (api.U{5}) {
		t.Errorf("Channel of 0 is %s", toldChannel(f, l))
	}
}

// P31.1: numbers of seeds, up to the last one.
func TestNumber(t *testing.T) {
	for _, c := range []struct {
		seed uint64
		k    int
		want uint64
	}{
		{0, 1, 1442695040888963407 >> 33}, {0, 2, 218396424}, {0, 100000, 561045386},
		{1, 1, 908834774}, {1, 2, 1093944153}, {2, 1, 1649717740}, {2, 2, 1969491882},
		{5, 99999, 1044427947}, {5, 100000, 179566348},
		{1 << 63, 1, 1241693631}, {1 << 63, 2, 1292138248},
		{math.MaxUint64, 1, 1574552488}, {math.MaxUint64, 2, 1490332343}, {math.MaxUint64, 100000, 207844464},
	} {
		if got := Number(c.seed, c.k); got != c.want {
			t.Errorf("Number of %d, %d is %d, want %d", c.seed, c.k, got, c.want)
		}
	}
}

// P31.1: there is no number ahead of the first one, and none behind the last one.
func TestNoNumber(t *testing.T) {
	for _, seed := range []uint64{0, 1, 7, math.MaxUint64} {
		for _, k := range []int{math.MinInt, -100000, -1, 0, 100001, 100002, 1 << 40, math.MaxInt} {
			if got := Number(seed, k); got != 0 {
				t.Errorf("Number of %d, %d is %d", seed, k, got)
			}
		}
		if Number(seed, 1) == 0 || Number(seed, 100000) == 0 {
			t.Errorf("of %d there is no first or no last one", seed)
		}
	}
}

// P31.1: the rules' codes: none, and three.
func TestApp(t *testing.T) {
	for kind, want := range map[int]string{
		0: "", 1: yes, 2: even, 3: gone, 4: gone, 256: gone, -1: gone, -2: gone, math.MinInt: gone, math.MaxInt: gone,
	} {
		if got := App(kind); got != want {
			t.Errorf("App of %d is %x, want %x", kind, got, want)
		}
	}
	for kind, want := range map[int]string{
		1: "PUSH1 01\nPUSH0\nMSTORE\nPUSH1 20\nPUSH0\nRETURN\n",
		2: "PUSH0\nCALLDATALOAD\nPUSH1 20\nADD\nCALLDATALOAD\nPUSH1 01\nAND\nISZERO\nPUSH0\nMSTORE\nPUSH1 20\nPUSH0\nRETURN\n",
		3: "PUSH0\nPUSH0\nREVERT\n",
	} {
		if got := codes.Listing(App(kind)); got != want {
			t.Errorf("App of %d lists as %q, want %q", kind, got, want)
		}
	}
}

// P31.1: what the codes do, as rules: 1 allows all, 2 what comes to an even Turn, any other nothing.
func TestRules(t *testing.T) {
	if r := vm.Run(App(1), "", 1000); r.Stand != api.RnDone || r.Out != rep(0, 31)+"\x01" {
		t.Errorf("1 tells %d, %x", r.Stand, r.Out)
	}
	if r := vm.Run(App(3), "", 1000); r.Stand != api.RnBack || r.Out != "" {
		t.Errorf("3 tells %d, %x", r.Stand, r.Out)
	}
	f, l := Channel(0)
	for kind := -1; kind <= 4; kind++ {
		f.App = App(kind)
		for turn := range uint64(6) {
			v := api.Var{Turn: 4 + turn, Data: "d", Exits: l}
			w := v
			w.Turn++
			want := api.ErrRule
			if kind == 1 || kind == 2 && w.Turn%2 == 0 {
				want = api.OK
			}
			if kind != 0 && rule.Allows(f, v, w, 0) != want {
				t.Errorf("kind %d, turn %d: error %d, want %d", kind, w.Turn, rule.Allows(f, v, w, 0), want)
			}
		}
	}
}

// P31.2: channels and their outcomes, at the bounds of each of their numbers.
func TestChannel(t *testing.T) {
	for _, c := range []struct {
		seed, nonce   uint64
		app           string
		time          int
		first, second uint64
	}{
		{0, 807, yes, 18, 16, 5}, {1, 774, "", 17, 10, 14}, {2, 740, yes, 17, 4, 15}, {3, 59, "", 16, 18, 4}, {7, 278, "", 14, 13, 5},
		{17, 0, "", 1, 11, 5}, {31765, 999, yes, 20, 14, 19}, {550, 992, yes, 16, 19, 19}, {18, 319, yes, 20, 4, 14},
		{390, 968, "", 16, 9, 0}, {9, 563, "", 13, 0, 15}, {441, 603, "", 13, 0, 0}, {636, 684, yes, 6, 0, 0},
		{1 << 63, 631, yes, 14, 0, 9}, {math.MaxUint64, 488, "", 18, 2, 4},
	} {
		f, l := Channel(c.seed)
		want, out := channel(t, c.nonce, c.app, c.time, c.first, c.second)
		if spelled(f) != spelled(want) || spelled(l) != spelled(out) {
			t.Errorf("Channel of %d is %s\nwant %s", c.seed, toldChannel(f, l), toldChannel(want, out))
		}
	}
}

// P31.2: it is of the addresses of the keys 1 and 2, in this order, and of the asset of 20 bytes t.
func TestParts(t *testing.T) {
	whos := []string{
		"\x7e\x5f\x45\x52\x09\x1a\x69\x12\x5d\x5d\xfc\xb7\xb8\xc2\x65\x90\x29\x39\x5b\xdf",
		"\x2b\x5a\xd5\xc4\x79\x5c\x02\x65\x14\xf8\x31\x7c\x7a\x21\x5e\x21\x8d\xcc\xd6\xcf",
	}
	for _, seed := range []uint64{0, 1, 441, math.MaxUint64} {
		f, l := Channel(seed)
		if fmt.Sprint(f.Parts) != fmt.Sprint(whos) || len(l) != 1 || len(l[0].Allocs) != 2 || l[0].Asset != "tttttttttttttttttttt" {
			t.Fatalf("Channel of %d is %s", seed, toldChannel(f, l))
		}
		for place, a := range l[0].Allocs {
			if a.Dest != rep(0, 12)+whos[place] || a.Kind != api.PayPlain || a.Left != "" || a.Right != "" {
				t.Errorf("place %d: %v", place, a)
			}
		}
	}
}

// P31.4: channels are fit, and so are their outcomes.
func TestFit(t *testing.T) {
	seed := uint64(4)
	seeds := []uint64{0, 441, 636, 31765, math.MaxUint64}
	for range 100 {
		seeds = append(seeds, mix(&seed))
	}
	for _, seed := range seeds {
		f, l := Channel(seed)
		if !state.FitFixed(f) || !state.FitVar(api.Var{Exits: l}) || state.Id(f) == "" {
			t.Errorf("of %d: %s", seed, toldChannel(f, l))
		}
		for kind := range 4 {
			f.App = App(kind)
			if !state.FitFixed(f) {
				t.Errorf("of %d with the rule %d", seed, kind)
			}
		}
	}
}
