package gen

import (
	"fmt"
	"math"
	"strings"
	"testing"

	"truce/api"
)

// Beginnings of scripts: by whether the first and the second amount are something.
const (
	opened = "mint 0, fee 0, mint 1, fee 1, open 0, open 1, move 0, post 0, move 1, post 1, "
	both   = opened + "look 0, take 0, look 1, take 1, move 0, post 2, move 1, post 3, "
	first  = opened + "look 0, take 0, look 1, move 0, post 2, move 1, post 3, "
	second = opened + "look 0, look 1, take 0, move 0, post 2, move 1, post 3, "
	none   = opened + "look 0, look 1, move 0, post 2, move 1, post 3, "
)

// P31.3: whole scripts: with a rule, and without one; with something, or nothing, of each.
func TestHonest(t *testing.T) {
	for _, c := range []struct {
		seed  uint64
		turns int
		want  string
	}{
		{0, 0, both + "final 0, post 4, post 5, exit 0, look 0, take 2, look 0, take 3"},
		{0, 1, both + "move 0, post 4, final 1, post 5, post 6, exit 0, look 0, take 2, look 0, take 3"},
		{0, 3, both + "move 0, post 4, move 1, post 5, move 0, post 6, final 1, post 7, post 8, exit 0, look 0, take 2, look 0, take 3"},
		{1, 0, both + "final 0, post 4, post 5, exit 0, look 0, take 2, look 0, take 3"},
		{1, 1, both + "move 0, post 4, post 5, final 1, post 6, post 7, exit 0, look 0, take 2, look 0, take 3"},
		{1, 2, both + "move 0, post 4, post 5, move 1, post 6, post 7, final 0, post 8, post 9, exit 0, look 0, take 2, look 0, take 3"},
		{390, 1, first + "move 0, post 4, post 5, final 1, post 6, post 7, exit 0, look 0, take 1, look 0, take 2"},
		{424, 1, first + "move 0, post 4, final 1, post 5, post 6, exit 0, look 0, take 1, look 0, take 2"},
		{9, 1, second + "move 0, post 4, post 5, final 1, post 6, post 7, exit 0, look 0, take 1, look 0, take 2"},
		{105, 0, second + "final 0, post 4, post 5, exit 0, look 0, take 1, look 0, take 2"},
		{441, 1, none + "move 0, post 4, post 5, final 1, post 6, post 7, exit 0, look 0, take 0, look 0"},
		{636, 2, none + "move 0, post 4, move 1, post 5, final 0, post 6, post 7, exit 0, look 0, take 0, look 0"},
	} {
		wantScript(t, c.seed, c.turns, c.want)
	}
}

// P31.3: so many turns more as said are from 0 to 20.
func TestTurns(t *testing.T) {
	for _, seed := range []uint64{0, 1, 441, 636} {
		f, l := plainChannel(t, seed)
		answers := 1
		if f.App == "" {
			answers = 2
		}
		for turns, many := range map[int]int{math.MinInt: 0, -1: 0, 0: 0, 1: 1, 7: 7, 19: 19, 20: 20, 21: 20, 1000: 20, math.MaxInt: 20} {
			got := Honest(seed, turns)
			words := told(t, got, f, l)
			if n := strings.Count(words, "move"); n != 4+many || strings.Count(words, "final") != 1 {
				t.Errorf("seed %d, %d turns: %d moves: %s", seed, turns, n, words)
			}
			if n := strings.Count(words, "post"); n != 6+many*answers {
				t.Errorf("seed %d, %d turns: %d posts: %s", seed, turns, n, words)
			}
			if len(got) > api.MaxMoves {
				t.Errorf("seed %d, %d turns: %d moves", seed, turns, len(got))
			}
			if spelled(got) != spelled(Honest(seed, many)) {
				t.Errorf("seed %d: %d turns are not %d", seed, turns, many)
			}
		}
	}
}

// lists are all lists of a script, as functions that change something in them.
func lists(l []api.Move) []func() {
	var out []func()
	for i := range l {
		for k := range l[i].Act.Fixed.Parts {
			out = append(out, func() { l[i].Act.Fixed.Parts[k] += "x" })
		}
		for k := range l[i].Act.Exits {
			out = append(out, func() { l[i].Act.Exits[k].Asset += "x" })
			for a := range l[i].Act.Exits[k].Allocs {
				out = append(out, func() { l[i].Act.Exits[k].Allocs[a].Amount[3]++ })
			}
		}
	}
	return out
}

// 0.5: no two lists of an answer share memory, and no two answers.
func TestOwnMemory(t *testing.T) {
	for _, seed := range []uint64{0, 1} {
		whole := spelled(Honest(seed, 2))
		n := len(lists(Honest(seed, 2)))
		if n != 2*2+7*3 {
			t.Fatalf("%d lists' items", n)
		}
		for i := range n {
			got := Honest(seed, 2)
			var before []string
			for _, m := range got {
				before = append(before, spelled(m))
			}
			lists(got)[i]()
			changed := 0
			for k, m := range got {
				if spelled(m) != before[k] {
					changed++
				}
			}
			if changed != 1 {
				t.Errorf("seed %d: the item %d is that of %d moves", seed, i, changed)
			}
		}
		if spelled(Honest(seed, 2)) != whole {
			t.Errorf("seed %d: another answer is changed", seed)
		}
		f, l := Channel(seed)
		was, out := spelled(f), spelled(l)
		f.Parts[0], l[0].Asset, l[0].Allocs[1].Amount[0] = "", "", 99
		if f, l := Channel(seed); spelled(f) != was || spelled(l) != out {
			t.Errorf("seed %d: another channel is changed", seed)
		}
	}
}

// P31.1 to P31.3: mixed seeds, and those about the bounds of 64 bits, held to the chapter's words in plain form.
func TestMixed(t *testing.T) {
	met := map[string]int{}
	for i := range uint64(3000) {
		row := i
		seed := mix(&row)
		if i%3 == 0 {
			seed = []uint64{i / 3, math.MaxUint64 - i/3, 1<<63 + i/3 - 500, i / 3 << 33, i / 3 << 54}[i/3%5]
		}
		for k, want := range plainNumbers(seed, 6) {
			if got := Number(seed, k+1); got != want {
				t.Fatalf("Number of %d, %d is %d, want %d", seed, k+1, got, want)
			}
		}
		f, l := plainChannel(t, seed)
		got, out := Channel(seed)
		if spelled(got) != spelled(f) || spelled(out) != spelled(l) {
			t.Fatalf("Channel of %d is %s\nwant %s", seed, toldChannel(got, out), toldChannel(f, l))
		}
		a, b := l[0].Allocs[0].Amount[0], l[0].Allocs[1].Amount[0]
		for _, s := range []string{fmt.Sprint("time ", f.Time), fmt.Sprint("first ", a), fmt.Sprint("second ", b), fmt.Sprint("rule ", f.App != "")} {
			met[s]++
		}
		if i%3 > 0 {
			turns := below(&row, 27) - 3
			wantScript(t, seed, turns, plainScript(f.App == "", a, b, turns))
		}
	}
	for n := range 20 {
		for _, s := range []string{fmt.Sprint("time ", n+1), fmt.Sprint("first ", n), fmt.Sprint("second ", n)} {
			if met[s] < 50 {
				t.Errorf("%s was met %d times", s, met[s])
			}
		}
	}
	if len(met) != 62 || met["rule true"] < 1000 || met["rule false"] < 1000 {
		t.Errorf("met %v", met)
	}
}

// P31.1: the last numbers of a seed, in plain form.
func TestFarNumbers(t *testing.T) {
	seed := uint64(31)
	l := plainNumbers(seed, 100000)
	for _, k := range []int{1, 2, 1000, 33333, 65535, 65536, 65537, 99998, 99999, 100000} {
		if got := Number(seed, k); got != l[k-1] {
			t.Errorf("Number of %d, %d is %d, want %d", seed, k, got, l[k-1])
		}
	}
}
