package fund

import (
	"fmt"
	"testing"

	"truce/api"
)

// P26.1: no agreed state, however much is held.
func TestFundedNotAgreed(t *testing.T) {
	for parts := 2; parts <= 4; parts++ {
		f := channel(t, parts, yes)
		j := judgeOf(t, f, 100)
		for me := range parts {
			b := bookOf(t, me, f)
			wantFunded(t, "nothing kept", j, b, f, false)
			for turn := range parts {
				what := fmt.Sprintf("turn %d of %d for %d", turn, parts, me)
				one := holds(t, b, f, with(uint64(turn), split(t, 1, 1)), turn%parts)
				wantFunded(t, what+", by one", j, one, f, false)
				wantFunded(t, what+", by all", j, sealed(t, b, f, with(uint64(turn), split(t, 1, 1))), f, turn >= parts-1)
			}
		}
	}
}

// P26.1: the agreed state is what is supported, by states of a row as by one alone; newer ones that are not are none of it.
func TestFundedRow(t *testing.T) {
	for parts := 2; parts <= 4; parts++ {
		f := channel(t, parts, yes)
		for me := range parts {
			b, full := bookOf(t, me, f), judgeOf(t, f, 7)
			for turn := range parts {
				wantFunded(t, fmt.Sprint("ahead of turn ", turn), full, b, f, false)
				b = holds(t, b, f, with(uint64(turn), split(t, 3, 4)), turn)
			}
			wantFunded(t, "each has signed its turn", full, b, f, true)
			wantFunded(t, "each has signed its turn, 1 lacks", judgeOf(t, f, 6), b, f, false)
			b = holds(t, b, f, with(uint64(parts+1), split(t, 8, 9)), 0)
			wantFunded(t, "a newer one of one alone", full, b, f, true)
			b = sealed(t, b, f, with(uint64(parts+2), split(t, 4, 4)))
			wantFunded(t, "a newer one of all", full, b, f, false)
			wantFunded(t, "a newer one of all", judgeOf(t, f, 8), b, f, true)
		}
	}
}

// P26.1: of each exit at least what it has in all is held for just that channel.
func TestFundedHeld(t *testing.T) {
	f, g := channel(t, 2, bare), channel(t, 2, yes)
	two := []api.Exit{exit(gold, plain(t, 0, 5), plain(t, 1, 3)), exit(wool, plain(t, 1, 2))}
	tied := []api.Exit{exit(gold, plain(t, 0, 5), bound(t, g, 0, 1, 2), plain(t, 7, 1))}
	high := []api.Exit{exit(gold, api.Alloc{Dest: destOf(t, 0), Amount: api.U{0, 0, 0, 1}}, plain(t, 1, 1))}
	most := []api.Exit{exit(gold, api.Alloc{Dest: destOf(t, 0), Amount: all})}
	hold := func(golds, wools api.U) api.Judge {
		return lays(t, lays(t, api.Judge{}, f, gold, golds), f, wool, wools)
	}
	for what, c := range map[string]struct {
		l    []api.Exit
		j    api.Judge
		want bool
	}{
		"no exits":                    {nil, api.Judge{}, true},
		"no allocations":              {[]api.Exit{exit(gold), exit(wool)}, api.Judge{}, true},
		"allocations of nothing":      {split(t, 0, 0), api.Judge{}, true},
		"nothing held":                {split(t, 0, 1), api.Judge{}, false},
		"just as much":                {split(t, 5, 3), judgeOf(t, f, 8), true},
		"1 more":                      {split(t, 5, 3), judgeOf(t, f, 9), true},
		"1 less":                      {split(t, 5, 3), judgeOf(t, f, 7), false},
		"its own part":                {split(t, 5, 3), judgeOf(t, f, 5), false},
		"of another asset":            {split(t, 5, 3), hold(api.U{}, api.U{8}), false},
		"of two assets":               {two, hold(api.U{8}, api.U{2}), true},
		"of two assets, less first":   {two, hold(api.U{7}, api.U{3}), false},
		"of two assets, less behind":  {two, hold(api.U{9}, api.U{1}), false},
		"of two assets, none behind":  {two, judgeOf(t, f, 10), false},
		"for another channel":         {split(t, 5, 3), lays(t, judgeOf(t, f, 7), g, gold, api.U{8}), false},
		"for another channel, too":    {split(t, 5, 3), lays(t, judgeOf(t, f, 8), g, gold, api.U{1}), true},
		"bound, and to others":        {tied, judgeOf(t, f, 8), true},
		"bound, and to others, less":  {tied, judgeOf(t, f, 7), false},
		"a high number":               {high, hold(api.U{1, 0, 0, 1}, api.U{}), true},
		"a high number, 1 less":       {high, hold(api.U{0, 0, 0, 1}, api.U{}), false},
		"a high number, its low part": {high, hold(api.U{1}, api.U{}), false},
		"all there is":                {most, hold(all, api.U{}), true},
		"all there is but 1":          {most, hold(api.U{top - 1, top, top, top}, api.U{}), false},
	} {
		for me := range 2 {
			for _, turn := range []uint64{1, 2, 3, 4, 9, api.MaxTurn} {
				b := sealed(t, bookOf(t, me, f), f, with(turn, c.l))
				wantFunded(t, what, c.j, b, f, c.want)
				wantFunded(t, what+", at the end", c.j, sealed(t, bookOf(t, me, f), f, final(with(turn, c.l))), f, c.want)
				wantFunded(t, what+", leaving", c.j, takes(t, b, enGoal(f, api.GoalExit)), f, c.want)
			}
		}
	}
}
