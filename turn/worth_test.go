package turn

import (
	"testing"

	"truce/api"
	"truce/state"
)

// wantWorth fails the test unless so much is a wallet's own, by the test's number and by the chapter's words.
func wantWorth(t testing.TB, what string, b api.Book, l []api.Exit, asset string, want api.U) {
	t.Helper()
	got := Worth(b, l, asset)
	if said := plainWorth(b, l, asset); got != want || said != want {
		t.Errorf("%s: %v, want %v; the chapter's words say %v", what, got, want, said)
	}
}

// promising is a participant's book with a channel of this rule, of whose newest state all have signed this outcome.
func promising(t testing.TB, me int, f api.Fixed, l []api.Exit) api.Book {
	t.Helper()
	var parts []int
	for part := range f.Parts {
		parts = append(parts, part)
	}
	return holds(t, bookOf(t, me, f), f, with(6, l), parts...)
}

// P25.1: what is plainly a wallet's own.
func TestWorthPlain(t *testing.T) {
	b := bookOf(t, 1)
	stray := api.Alloc{Dest: whoOf(t, 1) + rep(0, 12), Amount: api.U{9}}
	high := api.Alloc{Dest: destOf(t, 1), Amount: api.U{0, 0, 0, 1 << 63}}
	low := api.Alloc{Dest: destOf(t, 1), Amount: api.U{top, top, top, 1<<63 - 1}}
	most := api.Alloc{Dest: destOf(t, 1), Amount: all}
	for what, c := range map[string]struct {
		l     []api.Exit
		asset string
		want  api.U
	}{
		"no exit":                   {nil, gold, api.U{}},
		"no allocation":             {[]api.Exit{exit(gold)}, gold, api.U{}},
		"its own":                   {split(t, 3, 5), gold, api.U{5}},
		"another one's":             {split(t, 3), gold, api.U{}},
		"another asset":             {split(t, 3, 5), wool, api.U{}},
		"no asset at all":           {split(t, 3, 5), "", api.U{}},
		"some of its own":           {[]api.Exit{exit(gold, plain(t, 1, 5), plain(t, 0, 3), plain(t, 1, 7), plain(t, 1, 0))}, gold, api.U{12}},
		"the first of two assets":   {[]api.Exit{exit(gold, plain(t, 1, 5)), exit(wool, plain(t, 1, 9))}, gold, api.U{5}},
		"the second of two assets":  {[]api.Exit{exit(gold, plain(t, 1, 5)), exit(wool, plain(t, 1, 9))}, wool, api.U{9}},
		"a destination that is odd": {[]api.Exit{exit(gold, stray, plain(t, 1, 2))}, gold, api.U{2}},
		"all there is":              {[]api.Exit{exit(gold, most)}, gold, all},
		"all there is, in two":      {[]api.Exit{exit(gold, high, plain(t, 2, 0), low)}, gold, all},
		"a carry":                   {[]api.Exit{exit(gold, plain(t, 1, top), plain(t, 1, 1))}, gold, api.U{0, 1}},
		"eight of its own":          {[]api.Exit{exit(gold, plain(t, 1, 1), plain(t, 1, 2), plain(t, 1, 3), plain(t, 1, 4), plain(t, 1, 5), plain(t, 1, 6), plain(t, 1, 7), plain(t, 1, 8))}, gold, api.U{36}},
		"nine of its own":           {[]api.Exit{exit(gold, plain(t, 1, 1), plain(t, 1, 2), plain(t, 1, 3), plain(t, 1, 4), plain(t, 1, 5), plain(t, 1, 6), plain(t, 1, 7), plain(t, 1, 8), plain(t, 1, 9))}, gold, api.U{}},
		"more than can be":          {[]api.Exit{exit(gold, most, plain(t, 0, 1))}, gold, api.U{}},
		"more of another asset":     {[]api.Exit{exit(gold, plain(t, 1, 5)), exit(wool, most, plain(t, 0, 1))}, gold, api.U{}},
		"assets that fall":          {[]api.Exit{exit(wool, plain(t, 1, 5)), exit(gold, plain(t, 1, 5))}, gold, api.U{}},
		"an asset twice":            {[]api.Exit{exit(gold, plain(t, 1, 5)), exit(gold, plain(t, 1, 5))}, gold, api.U{}},
		"four assets":               {[]api.Exit{exit(rep(1, 20)), exit(rep(2, 20)), exit(rep(3, 20)), exit(gold, plain(t, 1, 5))}, gold, api.U{}},
		"an asset that is none":     {[]api.Exit{exit("", plain(t, 1, 5))}, "", api.U{}},
		"a kind that is none":       {[]api.Exit{exit(gold, plain(t, 1, 5), api.Alloc{Dest: destOf(t, 1), Kind: 2})}, gold, api.U{}},
		"a plain one with a side":   {[]api.Exit{exit(gold, api.Alloc{Dest: destOf(t, 1), Amount: api.U{5}, Left: destOf(t, 1)})}, gold, api.U{}},
	} {
		wantWorth(t, what, b, c.l, c.asset, c.want)
	}
	wantWorth(t, "nobody's book", api.Book{}, split(t, 3, 5), gold, api.U{})
}

// P25.1: its share of what is bound to a channel between it and another one.
func TestWorthBound(t *testing.T) {
	inner := numbered(t, 3, yes, 5)
	for me := range 3 {
		b := promising(t, me, inner, split(t, 5, 6))
		own := func(l ...api.Alloc) []api.Exit { return []api.Exit{exit(gold, l...)} }
		one, two := (me+1)%3, (me+2)%3
		for what, c := range map[string]struct {
			l    []api.Exit
			want uint64
		}{
			"left":                                   {own(bound(t, inner, me, one, 11)), 5},
			"right":                                  {own(bound(t, inner, two, me, 11)), 6},
			"left, more than both":                   {own(bound(t, inner, me, two, 100)), 5},
			"left, just its share":                   {own(bound(t, inner, me, one, 5)), 5},
			"right, just its share":                  {own(bound(t, inner, one, me, 6)), 6},
			"left, less than its share":              {own(bound(t, inner, me, one, 4)), 4},
			"right, less than its share":             {own(bound(t, inner, one, me, 5)), 5},
			"nothing bound":                          {own(bound(t, inner, me, one, 0)), 0},
			"between others":                         {own(bound(t, inner, one, two, 11)), 0},
			"between it and itself":                  {own(bound(t, inner, me, me, 11)), 0},
			"between it and a stranger":              {own(bound(t, inner, me, stranger, 11)), 5},
			"a channel that is not there":            {own(bound(t, numbered(t, 3, yes, 6), me, one, 11)), 0},
			"bound to itself":                        {own(api.Alloc{Dest: destOf(t, me), Amount: api.U{11}, Kind: api.PayBound, Left: destOf(t, me), Right: destOf(t, one)}), 0},
			"plain to the channel":                   {own(api.Alloc{Dest: state.Id(inner), Amount: api.U{11}}), 0},
			"two of one channel, and some plain":     {own(plain(t, me, 1), bound(t, inner, me, one, 11), plain(t, one, 50), bound(t, inner, one, me, 11), plain(t, me, 20)), 32},
			"of wool the channel has nothing":        {[]api.Exit{exit(gold), exit(wool, bound(t, inner, me, one, 11), plain(t, me, 2))}, 0},
			"the sides as the channel's order turns": {own(bound(t, inner, 2, 0, 11), bound(t, inner, 0, 2, 11)), []uint64{11, 0, 11}[me]},
		} {
			wantWorth(t, what, b, c.l, gold, api.U{c.want})
		}
		wantWorth(t, "wool", b, []api.Exit{exit(gold), exit(wool, bound(t, inner, me, one, 11), plain(t, me, 2))}, wool, api.U{2})
	}
}

// P25.1: what the channel must have: of that asset an exit of just two plain allocations, whoever's.
func TestWorthInner(t *testing.T) {
	inner := channel(t, 2, yes)
	held := []api.Exit{exit(gold, bound(t, inner, 0, 1, 50), plain(t, 0, 1))}
	strange := api.Alloc{Dest: rep(9, 32), Amount: api.U{7}}
	for what, c := range map[string]struct {
		l    []api.Exit
		want uint64
	}{
		"two plain ones":              {split(t, 5, 6), 6},
		"two of others":               {[]api.Exit{exit(gold, strange, plain(t, 0, 2))}, 8},
		"both its own":                {[]api.Exit{exit(gold, plain(t, 0, 4), plain(t, 0, 2))}, 5},
		"the second asset":            {[]api.Exit{exit(rep(1, 20), plain(t, 0, 30), plain(t, 0, 40)), exit(gold, plain(t, 0, 4), plain(t, 0, 2))}, 5},
		"nothing for the first":       {split(t, 0, 6), 1},
		"no exit":                     {nil, 1},
		"another asset":               {[]api.Exit{exit(wool, plain(t, 0, 4), plain(t, 0, 2))}, 1},
		"no allocation":               {[]api.Exit{exit(gold)}, 1},
		"one allocation":              {split(t, 5), 1},
		"three allocations":           {[]api.Exit{exit(gold, plain(t, 0, 5), plain(t, 1, 6), plain(t, 0, 0))}, 1},
		"the first one bound":         {[]api.Exit{exit(gold, bound(t, inner, 0, 1, 5), plain(t, 1, 6))}, 1},
		"the second one bound":        {[]api.Exit{exit(gold, plain(t, 0, 5), bound(t, inner, 0, 1, 6))}, 1},
		"both bound":                  {[]api.Exit{exit(gold, bound(t, inner, 0, 1, 5), bound(t, inner, 0, 1, 6))}, 1},
		"the first one more than all": {[]api.Exit{exit(gold, api.Alloc{Dest: rep(9, 32), Amount: all}, plain(t, 1, 0))}, 51},
	} {
		wantWorth(t, what, promising(t, 0, inner, c.l), held, gold, api.U{c.want})
	}
}

// P25.1: the share is that of what is supported, whatever else is kept.
func TestWorthBest(t *testing.T) {
	for what, c := range map[string]struct {
		says   string
		states []api.Var
		parts  [][]int
		want   uint64
	}{
		"nothing is kept":                      {yes, nil, nil, 0},
		"one has signed":                       {yes, []api.Var{with(4, split(t, 5, 6))}, [][]int{{1}}, 0},
		"all have signed":                      {yes, []api.Var{with(4, split(t, 5, 6))}, [][]int{{0, 1}}, 5},
		"a newer one that one has signed":      {bare, []api.Var{with(4, split(t, 5, 6)), with(5, split(t, 3, 8))}, [][]int{{0, 1}, {1}}, 5},
		"a newer one that all have signed":     {bare, []api.Var{with(4, split(t, 5, 6)), with(5, split(t, 3, 8))}, [][]int{{0, 1}, {1, 0}}, 3},
		"each its own":                         {yes, []api.Var{with(4, split(t, 5, 6)), with(5, split(t, 3, 8))}, [][]int{{0}, {1}}, 3},
		"each its own, where no rule says so":  {bare, []api.Var{with(4, split(t, 5, 6)), with(5, split(t, 3, 8))}, [][]int{{0}, {1}}, 0},
		"each its own, and the rule says no":   {no, []api.Var{with(4, split(t, 5, 6)), with(5, split(t, 3, 8))}, [][]int{{0}, {1}}, 0},
		"each its own, ahead of one not shown": {yes, []api.Var{with(4, split(t, 5, 6)), with(5, split(t, 3, 8)), with(7, split(t, 1, 10))}, [][]int{{0}, {1}, {1}}, 3},
	} {
		inner := channel(t, 2, c.says)
		b := bookOf(t, 0, numbered(t, 2, yes, 8), inner)
		for i, v := range c.states {
			b = holds(t, b, inner, v, c.parts[i]...)
		}
		wantWorth(t, what, b, []api.Exit{exit(gold, bound(t, inner, 0, 1, 11))}, gold, api.U{c.want})
	}
}
