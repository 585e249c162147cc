package watch

import (
	"math"
	"testing"

	"truce/api"
	"truce/state"
)

// The chapter's example.
func TestExample(t *testing.T) {
	f := channel(t, 2, bare)
	b := sealed(t, bookOf(t, 0, f), f, at(5))
	out := leaves(t, b, f)
	j := knows(known(f, 2, 9))
	wantRisk(t, "staying", j, 3, b, f, true)
	wantMoves(t, "staying", j, 3, b, f, proves(t, api.TxCheckpoint, b, f))
	wantRisk(t, "leaving", j, 3, out, f, true)
	wantMoves(t, "leaving", j, 3, out, f, proves(t, api.TxChallenge, b, f))
}

// 0.5: what is told shares no memory with what was given, nor one answer with the next.
func TestOwnMemory(t *testing.T) {
	f := channel(t, 2, yes)
	b := holds(t, holds(t, bookOf(t, 0, f), f, with(4, split(t, 5, 3)), 0), f, with(5, split(t, 5, 3)), 1)
	j := knows(known(f, 2, 9))
	before := spelled(b) + spelled(j)
	l, want := Moves(j, 3, b, state.Id(f)), Moves(j, 3, b, state.Id(f))
	said := spelled(want)
	l[0].Fixed.Parts[0] = ""
	l[0].Proof[0].Var.Exits[0].Allocs[0].Amount, l[0].Proof[0].Var.Exits[0].Asset = all, wool
	l[0].Proof[1].Seals[0] = api.Seal{}
	l[0].Proof[1] = api.Signed{}
	if spelled(want) != said || spelled(b)+spelled(j) != before {
		t.Error("what was given, or told ahead, is changed by what was told")
	}
	wantMoves(t, "once more", j, 3, b, f, proves(t, api.TxCheckpoint, b, f))
	b.Chans[0].Fixed.Parts[1] = ""
	b.Chans[0].Kept[0].Var.Exits[0].Allocs[1].Amount = all
	b.Chans[0].Kept[1].Seals[1] = api.Seal{}
	if spelled(want) != said {
		t.Error("what was told is changed by the book")
	}
}

// 0.1: books and judges that no call tells: each call ends, and none panics.
func TestUnfit(t *testing.T) {
	f, g := numbered(t, 1), numbered(t, 2)
	for what, spoil := range map[string]func(*api.Book, *api.Judge){
		"nothing":             func(*api.Book, *api.Judge) {},
		"no one":              func(b *api.Book, _ *api.Judge) { b.Key, b.Who = api.U{}, "" },
		"me below":            func(b *api.Book, _ *api.Judge) { b.Chans[0].Me = math.MinInt },
		"me above":            func(b *api.Book, _ *api.Judge) { b.Chans[0].Me = math.MaxInt },
		"no participants":     func(b *api.Book, _ *api.Judge) { b.Chans[0].Fixed.Parts = nil },
		"more participants":   func(b *api.Book, _ *api.Judge) { b.Chans[0].Fixed.Parts = make([]string, 9) },
		"nothing fixed":       func(b *api.Book, _ *api.Judge) { b.Chans[0].Fixed = api.Fixed{} },
		"no lists":            func(b *api.Book, _ *api.Judge) { b.Chans[0].Kept[0].Has, b.Chans[0].Kept[0].Seals = nil, nil },
		"one seal":            func(b *api.Book, _ *api.Judge) { b.Chans[0].Kept[0].Seals = b.Chans[0].Kept[0].Seals[:1] },
		"nobody, in no place": func(b *api.Book, _ *api.Judge) { b.Chans[0] = api.Chan{Id: b.Chans[0].Id, Kept: make([]api.Kept, 1)} },
		"a turn beyond all":   func(b *api.Book, _ *api.Judge) { b.Chans[0].Kept[0].Var.Turn = math.MaxUint64 },
		"a state twice":       func(b *api.Book, _ *api.Judge) { b.Chans[0].Kept = append(b.Chans[0].Kept, b.Chans[0].Kept[0]) },
		"states that fall":    func(b *api.Book, _ *api.Judge) { b.Chans[0].Kept = append(b.Chans[0].Kept, api.Kept{}) },
		"a name that is none": func(b *api.Book, _ *api.Judge) { b.Chans[0].Id = "" },
		"a goal that is none": func(b *api.Book, _ *api.Judge) { b.Chans[0].Goal = -9 },
		"a rule that is long": func(b *api.Book, _ *api.Judge) { b.Chans[0].Fixed.App = rep(0x5b, 9999) },
		"a time that is none": func(b *api.Book, _ *api.Judge) { b.Chans[0].Fixed.Time = math.MaxInt },
		"cases that fall":     func(_ *api.Book, j *api.Judge) { j.Cases = append(j.Cases, api.Case{}, j.Cases[0], api.Case{}) },
		"many cases":          func(_ *api.Book, j *api.Judge) { j.Cases = append(j.Cases, make([]api.Case, 999)...) },
		"an end below 0":      func(_ *api.Book, j *api.Judge) { j.Cases[0].Ends, j.Cases[1].Ends = math.MinInt, math.MinInt },
		"an end beyond all":   func(_ *api.Book, j *api.Judge) { j.Cases[0].Ends, j.Cases[1].Ends = math.MaxInt, math.MaxInt },
		"many exits":          func(_ *api.Book, j *api.Judge) { j.Cases[0].Exits = make([]api.Exit, 99) },
		"many allocations": func(_ *api.Book, j *api.Judge) {
			j.Cases[0].Exits, j.Cases[1].Exits = []api.Exit{exit(gold, make([]api.Alloc, 999)...)}, []api.Exit{exit("", make([]api.Alloc, 999)...)}
		},
		"odd kinds": func(_ *api.Book, j *api.Judge) {
			j.Cases[0].Exits = []api.Exit{exit(gold, api.Alloc{Kind: -1}, api.Alloc{Kind: 9, Amount: all})}
		},
		"holds that fall": func(_ *api.Book, j *api.Judge) {
			j.Holds = append(j.Holds, api.Hold{}, j.Holds[0], api.Hold{Asset: gold})
		},
	} {
		for _, now := range []int{math.MinInt, 0, 1, 3, 9, api.MaxNow, math.MaxInt} {
			b := leaves(t, sealed(t, bookOf(t, 0, f), f, with(5, split(t, 5, 3))), f)
			j := lays(t, knows(known(f, 2, 4, exit(gold, bound(t, g, 0, 1, 5))), known(g, 2, 4, split(t, 5)...)), f, gold, 5)
			spoil(&b, &j)
			before := spelled(j) + spelled(b)
			for _, id := range []string{state.Id(f), state.Id(g), "", b.Chans[0].Id} {
				Risk(j, now, b, id)
				Moves(j, now, b, id)
			}
			if spelled(j)+spelled(b) != before {
				t.Errorf("%s: what was given was changed", what)
			}
		}
	}
}
