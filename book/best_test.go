package book

import (
	"fmt"
	"slices"
	"testing"

	"truce/api"
	"truce/proof"
	"truce/state"
)

// plainOf is a channel whose states have the seals of those whose bits are set; a state that nobody has sealed is not kept.
func plainOf(t testing.TB, f api.Fixed, vars []api.Var, bits []int) *plainChan {
	t.Helper()
	c := &plainChan{f: f, vars: map[uint64]api.Var{}, has: map[uint64]map[int]api.Seal{}}
	for i, v := range vars {
		if bits[i] == 0 {
			continue
		}
		c.vars[v.Turn], c.has[v.Turn] = v, map[int]api.Seal{}
		for part := range f.Parts {
			if bits[i]>>part&1 == 1 {
				c.has[v.Turn][part] = sealOf(t, f, v, part)
			}
		}
	}
	return c
}

func (c *plainChan) chain() api.Chan { return (&plainBook{chans: []*plainChan{c}}).book().Chans[0] }

// wantPlainBest fails the test unless Best tells what the chapter's words do.
func wantPlainBest(t testing.TB, what string, c *plainChan) []uint64 {
	t.Helper()
	want := c.best()
	if got := Best(c.chain()); !proof.Same(got, c.signedOf(want)) || len(want) == 0 && got != nil {
		var turns []uint64
		for _, s := range got {
			turns = append(turns, s.Var.Turn)
		}
		t.Fatalf("%s: %s: best %v, want %v", what, toldChan(c.chain()), turns, want)
	}
	return want
}

// rowOf is n states from a turn on, each following the one ahead.
func rowOf(turn uint64, n int) []api.Var {
	var out []api.Var
	for i := range n {
		out = append(out, at(turn+uint64(i)))
	}
	return out
}

// bitsOf are the seals of each of n states, by a number of all such.
func bitsOf(all, n, parts int) []int {
	var out []int
	for range n {
		out = append(out, all%(1<<parts))
		all >>= parts
	}
	return out
}

// P24.4: all seals that there can be of some states of two and of three, from each turn modulo them on.
func TestBestAll(t *testing.T) {
	for _, c := range []struct{ parts, states int }{{2, 4}, {3, 3}, {3, 4}} {
		f := channel(t, c.parts, yes)
		for first := range c.parts {
			lengths := map[int]int{}
			vars := rowOf(uint64(2*c.parts+first), c.states)
			for all := range 1 << (c.parts * c.states) {
				if c.parts*c.states > 9 && all%7 != first {
					continue
				}
				p := plainOf(t, f, vars, bitsOf(all, c.states, c.parts))
				lengths[len(wantPlainBest(t, fmt.Sprint("seals ", all), p))]++
			}
			for n := range c.parts + 1 {
				if lengths[n] == 0 {
					t.Errorf("%d states of %d: no best of %d", c.states, c.parts, n)
				}
			}
		}
	}
}

// P24.4: some of the seals that there can be of some states of four.
func TestBestFour(t *testing.T) {
	f := channel(t, 4, yes)
	seed := uint64(4)
	lengths := map[int]int{}
	for range 3000 {
		vars := rowOf(uint64(8+below(&seed, 4)), 5)
		var bits []int
		for range vars {
			bits = append(bits, int(mix(&seed)&mix(&seed)%16))
		}
		lengths[len(wantPlainBest(t, "mixed", plainOf(t, f, vars, bits)))]++
	}
	for n := range 5 {
		if lengths[n] < 10 {
			t.Errorf("best of %d: %d", n, lengths[n])
		}
	}
}

// P24.4: rows that are broken by a turn that is not kept, or by a state that does not follow the one ahead.
func TestBestBroken(t *testing.T) {
	final := func(turn uint64) api.Var {
		v := at(turn)
		v.Final = true
		return v
	}
	for _, parts := range []int{2, 3, 4} {
		for _, says := range []string{yes, no} {
			f := channel(t, parts, says)
			turn := uint64(2 * parts)
			seed := uint64(parts)
			for range 600 {
				var vars []api.Var
				for i := range uint64(5) {
					makers := []func(uint64) api.Var{at, at, at, other, rich, final}
					vars = append(vars, makers[below(&seed, len(makers))](turn+i+mix(&seed)%16/15))
				}
				var bits []int
				for range vars {
					bits = append(bits, below(&seed, 1<<parts))
				}
				wantPlainBest(t, "broken", plainOf(t, f, vars, bits))
			}
		}
	}
}

// P24.4: the first turns follow without a rule, but not with other data, and not behind the last of them.
func TestBestFirstTurns(t *testing.T) {
	f := channel(t, 2, "")
	for first := range uint64(6) {
		for all := range 1 << 8 {
			wantPlainBest(t, "first turns", plainOf(t, f, rowOf(first, 4), bitsOf(all, 4, 2)))
		}
	}
	vars := []api.Var{at(1), other(2), other(3), other(4)}
	for all := range 1 << 8 {
		wantPlainBest(t, "other data", plainOf(t, f, vars, bitsOf(all, 4, 2)))
	}
}

// P24.4: the words' edges, one by one; the bits of each state are its seals.
func TestBestEdges(t *testing.T) {
	two, three, noRule := channel(t, 2, yes), channel(t, 3, yes), channel(t, 2, no)
	for what, c := range map[string]struct {
		f    api.Fixed
		vars []api.Var
		bits []int
		want []uint64
	}{
		"nothing":                                   {two, nil, nil, nil},
		"one with all seals":                        {two, rowOf(6, 1), []int{3}, []uint64{6}},
		"one with one seal":                         {two, rowOf(6, 1), []int{1}, nil},
		"one with the other seal":                   {two, rowOf(6, 1), []int{2}, nil},
		"each its own":                              {two, rowOf(6, 2), []int{1, 2}, []uint64{6, 7}},
		"each the other's":                          {two, rowOf(6, 2), []int{2, 1}, nil},
		"the last one's seal of the first":          {two, rowOf(6, 2), []int{3, 1}, []uint64{6}},
		"the first one's seal of the last":          {two, rowOf(6, 2), []int{2, 3}, []uint64{7}},
		"all on the last, more ahead":               {two, rowOf(6, 2), []int{3, 3}, []uint64{7}},
		"the highest is not supported":              {two, rowOf(6, 3), []int{1, 2, 2}, []uint64{6, 7}},
		"a higher one alone behind a gap":           {two, []api.Var{at(6), at(7), at(9)}, []int{1, 2, 2}, []uint64{6, 7}},
		"a row of which a turn is not kept":         {two, []api.Var{at(6), at(8)}, []int{1, 2}, nil},
		"a rule that says no":                       {noRule, rowOf(6, 2), []int{1, 2}, nil},
		"a rule that says no, all seals":            {noRule, rowOf(6, 2), []int{1, 3}, []uint64{7}},
		"a rule that says no, an older one":         {noRule, rowOf(6, 2), []int{3, 2}, []uint64{6}},
		"another total":                             {two, []api.Var{at(6), rich(7)}, []int{1, 2}, nil},
		"three, each its own":                       {three, rowOf(6, 3), []int{1, 2, 4}, []uint64{6, 7, 8}},
		"three, of four the least":                  {three, rowOf(6, 4), []int{1, 2, 4, 1}, []uint64{7, 8, 9}},
		"three, two states":                         {three, rowOf(6, 2), []int{5, 2}, []uint64{6, 7}},
		"three, two states, who is not on on both":  {three, rowOf(6, 2), []int{5, 6}, []uint64{6, 7}},
		"three, two states, who is not on, last":    {three, rowOf(6, 2), []int{1, 6}, []uint64{6, 7}},
		"three, the row of two breaks":              {three, []api.Var{at(6), rich(7), rich(8)}, []int{1, 2, 4}, nil},
		"three, the row of two breaks, not in time": {three, []api.Var{at(6), rich(7), rich(8)}, []int{1, 3, 4}, []uint64{7, 8}},
		"three, all that is ahead, not the last":    {three, rowOf(6, 3), []int{7, 2, 1}, []uint64{6, 7}},
		"more states than there are participants":   {two, rowOf(6, 3), []int{1, 3, 0}, []uint64{7}},
		"two, three states would do":                {two, rowOf(6, 3), []int{3, 1, 1}, []uint64{6}},
	} {
		p := plainOf(t, c.f, c.vars, c.bits)
		if got := wantPlainBest(t, what, p); !slices.Equal(got, c.want) {
			t.Errorf("%s: best %v, want %v", what, got, c.want)
		}
	}
}

// P24.4: the seals stand in the participants' order, whatever order they came in, and none for who has sent none.
func TestBestSeals(t *testing.T) {
	f := channel(t, 4, yes)
	b := opened(t, f, 2)
	for _, part := range []int{3, 0, 2, 1} {
		b = takes(t, b, enSealed(t, f, at(8), 2, part))
	}
	var want []api.Seal
	for part := range 4 {
		want = append(want, sealOf(t, f, at(8), part))
	}
	if got := Best(b.Chans[0]); !proof.Same(got, []api.Signed{{Var: at(8), Seals: want}}) {
		t.Errorf("got %v", got)
	}
	b = takes(t, b, enSeen(t, f, at(9), 3), enSeen(t, f, at(9), 1), enMine(t, f, at(10), 2), enSeen(t, f, at(10), 0))
	got := Best(b.Chans[0])
	more := []api.Signed{
		{Var: at(9), Seals: []api.Seal{sealOf(t, f, at(9), 1), sealOf(t, f, at(9), 3)}},
		{Var: at(10), Seals: []api.Seal{sealOf(t, f, at(10), 0), sealOf(t, f, at(10), 2)}},
	}
	if !proof.Same(got, more) {
		t.Errorf("best has %d states", len(got))
	}
}

// P24.5: whatever is kept, proof.Support of Best is OK, and its last state.
func TestBestSupported(t *testing.T) {
	met := 0
	for _, parts := range []int{2, 3, 4} {
		f := channel(t, parts, yes)
		seed := uint64(70 + parts)
		for range 40 {
			vars := rowOf(uint64(2*parts+below(&seed, parts)), 5)
			vars[below(&seed, 5)].Data = "e"
			var bits []int
			for range vars {
				bits = append(bits, below(&seed, 1<<parts))
			}
			c := plainOf(t, f, vars, bits).chain()
			met += wantSupported(t, "mixed", c)
		}
	}
	if met < 50 {
		t.Errorf("only %d are supported", met)
	}
}

// wantSupported fails the test unless a channel's Best is supported, if it is something: then it tells 1.
func wantSupported(t testing.TB, what string, c api.Chan) int {
	t.Helper()
	best := Best(c)
	if len(best) == 0 {
		return 0
	}
	v, err := proof.Support(c.Fixed, best)
	if err != api.OK || !state.Same(v, best[len(best)-1].Var) {
		t.Fatalf("%s: %s: best of %d: error %d", what, toldChan(c), len(best), err)
	}
	return 1
}
