package watch

import (
	"math"
	"testing"

	"truce/api"
	"truce/state"
)

// P27.1: challenged, not ended yet, and by an older turn.
func TestRisk(t *testing.T) {
	f := channel(t, 2, yes)
	b := sealed(t, bookOf(t, 0, f), f, with(5, split(t, 5, 3)))
	late := sealed(t, bookOf(t, 1, f), f, with(api.MaxTurn, split(t, 5, 3)))
	for what, c := range map[string]struct {
		b         api.Book
		turn      uint64
		ends, now int
		want      bool
	}{
		"challenged":                     {b, 2, 9, 3, true},
		"not challenged":                 {b, 2, 0, 3, false},
		"not challenged, at first":       {b, 2, 0, 1, false},
		"the turn ahead":                 {b, 4, 9, 3, true},
		"the first turn":                 {b, 0, 9, 3, true},
		"the same turn":                  {b, 5, 9, 3, false},
		"a newer turn":                   {b, 6, 9, 3, false},
		"the last turn":                  {b, api.MaxTurn, 9, 3, false},
		"the last one's turn ahead":      {late, api.MaxTurn - 1, 9, 3, true},
		"the last one's turn":            {late, api.MaxTurn, 9, 3, false},
		"1 ahead of the end":             {b, 2, 9, 8, true},
		"at the end":                     {b, 2, 9, 9, false},
		"behind the end":                 {b, 2, 9, 10, false},
		"long behind the end":            {b, 2, 9, api.MaxNow, false},
		"ends at 1":                      {b, 2, 1, 1, false},
		"ends at 2":                      {b, 2, 2, 1, true},
		"ends at the last moment":        {b, 2, api.MaxNow, api.MaxNow - 1, true},
		"ends now, at the last moment":   {b, 2, api.MaxNow, api.MaxNow, false},
		"ends behind the last moment":    {b, 2, api.MaxNow + 1, api.MaxNow, true},
		"ends as late as can be":         {b, 2, 2 * api.MaxNow, api.MaxNow, true},
		"not challenged, at the last":    {b, 2, 0, api.MaxNow, false},
		"the same turn, 1 ahead of that": {b, 5, 9, 8, false},
	} {
		wantRisk(t, what, knows(known(f, c.turn, c.ends)), c.now, c.b, f, c.want)
		wantRisk(t, what+", leaving", knows(known(f, c.turn, c.ends)), c.now, leaves(t, c.b, f), f, c.want)
	}
}

// P27.1: of what is no moment judge.Final says that nothing has ended.
func TestRiskNoMoment(t *testing.T) {
	f := channel(t, 2, bare)
	b := sealed(t, bookOf(t, 0, f), f, at(5))
	for _, now := range []int{0, -1, math.MinInt, api.MaxNow + 1, math.MaxInt} {
		wantRisk(t, "no moment", knows(known(f, 2, 9)), now, b, f, true)
		wantRisk(t, "no moment, not challenged", knows(known(f, 2, 0)), now, b, f, false)
		wantRisk(t, "no moment, the same turn", knows(known(f, 5, 9)), now, b, f, false)
	}
}

// P27.1: a channel that the book has not, or the judge does not know.
func TestRiskNone(t *testing.T) {
	f, g := channel(t, 2, bare), channel(t, 2, yes)
	b := sealed(t, bookOf(t, 0, f), f, at(5))
	for _, x := range []api.Book{{}, bookOf(t, 0), bookOf(t, 0, g), sealed(t, bookOf(t, 0, g), g, at(5))} {
		wantRisk(t, "no such channel", knows(known(f, 2, 9)), 3, x, f, false)
	}
	for _, id := range []string{"", "abc", rep(0, 32), state.Id(f)[1:], rep(255, 32)} {
		if Risk(knows(known(f, 2, 9)), 3, b, id) {
			t.Errorf("channel %x is at risk", id)
		}
	}
	wantRisk(t, "no case", knows(), 3, b, f, false)
	wantRisk(t, "no case at all", api.Judge{}, 3, b, f, false)
	wantRisk(t, "another one's case", knows(known(g, 2, 9)), 3, b, f, false)
	wantRisk(t, "beside another one's", knows(known(g, 9, 3), known(f, 2, 9)), 3, b, f, true)
	b = sealed(t, takes(t, b, api.Entry{Kind: api.EnChan, Fixed: g}), g, at(7))
	wantRisk(t, "the first of two", knows(known(f, 5, 9), known(g, 6, 9)), 3, b, f, false)
	wantRisk(t, "the second of two", knows(known(f, 5, 9), known(g, 6, 9)), 3, b, g, true)
}

// P27.1: the turn is the last one's of what is supported: by one state, or by a row; what is kept and supports nothing is none.
func TestRiskSupported(t *testing.T) {
	f := channel(t, 2, yes)
	b := bookOf(t, 0, f)
	j := func(turn uint64) api.Judge { return knows(known(f, turn, 9)) }
	wantRisk(t, "nothing kept", j(0), 3, b, f, false)
	b = holds(t, b, f, at(4), 0)
	wantRisk(t, "its own alone", j(0), 3, b, f, false)
	b = holds(t, b, f, at(5), 1)
	wantRisk(t, "a row of both", j(4), 3, b, f, true)
	wantRisk(t, "a row of both, its last turn", j(5), 3, b, f, false)
	b = holds(t, b, f, at(7), 1)
	wantRisk(t, "a newer one of the other one", j(4), 3, b, f, true)
	wantRisk(t, "a newer one of the other one, between", j(5), 3, b, f, false)
	b = holds(t, b, f, at(6), 0)
	wantRisk(t, "a row of more", j(6), 3, b, f, true)
	wantRisk(t, "a row of more, its last turn", j(7), 3, b, f, false)
	g := channel(t, 2, bare)
	c := holds(t, holds(t, bookOf(t, 0, g), g, at(4), 0), g, at(5), 1)
	wantRisk(t, "a row that no rule lets follow", knows(known(g, 0, 9)), 3, c, g, false)
	wantRisk(t, "the first of that by all", knows(known(g, 3, 9)), 3, holds(t, c, g, at(4), 1), g, true)
	wantRisk(t, "the first of that by all, its turn", knows(known(g, 4, 9)), 3, holds(t, c, g, at(4), 1), g, false)
}
