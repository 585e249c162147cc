package fund

import (
	"math"
	"testing"

	"truce/api"
	"truce/state"
)

// 0.5: what is told shares no memory with the book, nor one answer with the next.
func TestOwnMemory(t *testing.T) {
	f := channel(t, 2, bare)
	b, j := sealed(t, bookOf(t, 0, f), f, with(1, split(t, 5, 3))), judgeOf(t, f, 8)
	before := spelled(b)
	e, err := Ready(j, b, state.Id(f))
	wantEntry(t, "ready", e, err, enMine(t, f, with(2, split(t, 5, 3)), 0), api.OK)
	e.Var.Exits[0].Allocs[0].Amount, e.Var.Exits[0].Asset = all, wool
	l := Deposits(api.Judge{}, b, state.Id(f))
	l[0] = api.Tx{}
	if spelled(b) != before {
		t.Error("the book is changed by what was told")
	}
	wantReady(t, "once more", j, b, f, with(2, split(t, 5, 3)), api.OK)
	wantDeposits(t, "once more", api.Judge{}, b, f, txOf(f, gold, 0, 5))
}

// 0.1: books and judges that no call tells: each call ends, and none panics.
func TestUnfit(t *testing.T) {
	f := channel(t, 2, bare)
	for what, spoil := range map[string]func(*api.Book, *api.Judge){
		"nothing":             func(*api.Book, *api.Judge) {},
		"no key":              func(b *api.Book, _ *api.Judge) { b.Key = api.U{} },
		"no one":              func(b *api.Book, _ *api.Judge) { b.Who = "" },
		"me below":            func(b *api.Book, _ *api.Judge) { b.Chans[0].Me = -1 },
		"me far below":        func(b *api.Book, _ *api.Judge) { b.Chans[0].Me = math.MinInt },
		"me above":            func(b *api.Book, _ *api.Judge) { b.Chans[0].Me = 2 },
		"me far above":        func(b *api.Book, _ *api.Judge) { b.Chans[0].Me = math.MaxInt },
		"no participants":     func(b *api.Book, _ *api.Judge) { b.Chans[0].Fixed.Parts = nil },
		"one participant":     func(b *api.Book, _ *api.Judge) { b.Chans[0].Fixed.Parts = b.Chans[0].Fixed.Parts[:1] },
		"more participants":   func(b *api.Book, _ *api.Judge) { b.Chans[0].Fixed.Parts = make([]string, 9) },
		"nothing fixed":       func(b *api.Book, _ *api.Judge) { b.Chans[0].Fixed = api.Fixed{} },
		"no lists":            func(b *api.Book, _ *api.Judge) { b.Chans[0].Kept[0].Has, b.Chans[0].Kept[0].Seals = nil, nil },
		"one seal":            func(b *api.Book, _ *api.Judge) { b.Chans[0].Kept[0].Seals = b.Chans[0].Kept[0].Seals[:1] },
		"long lists":          func(b *api.Book, _ *api.Judge) { b.Chans[0].Kept[0].Has = make([]bool, 9) },
		"nobody, in no place": func(b *api.Book, _ *api.Judge) { b.Chans[0] = api.Chan{Id: b.Chans[0].Id, Kept: make([]api.Kept, 1)} },
		"a turn beyond all":   func(b *api.Book, _ *api.Judge) { b.Chans[0].Kept[0].Var.Turn = math.MaxUint64 },
		"exits that fall":     func(b *api.Book, _ *api.Judge) { b.Chans[0].Kept[0].Var.Exits = []api.Exit{exit(wool), exit(gold)} },
		"sums beyond all":     func(b *api.Book, _ *api.Judge) { b.Chans[0].Kept[0].Var.Exits = append(split(t, 1, 1), split(t, 1)...) },
		"an asset of nothing": func(b *api.Book, _ *api.Judge) { b.Chans[0].Kept[0].Var.Exits = []api.Exit{{}} },
		"all twice":           func(b *api.Book, _ *api.Judge) { b.Chans[0].Kept[0].Var.Exits[0].Allocs[0].Amount = all },
		"a state twice":       func(b *api.Book, _ *api.Judge) { b.Chans[0].Kept = append(b.Chans[0].Kept, b.Chans[0].Kept[0]) },
		"states that fall":    func(b *api.Book, _ *api.Judge) { b.Chans[0].Kept = append(b.Chans[0].Kept, api.Kept{}) },
		"a name that is none": func(b *api.Book, _ *api.Judge) { b.Chans[0].Id = "" },
		"mine beyond all":     func(b *api.Book, _ *api.Judge) { b.Chans[0].Mine = math.MaxUint64 },
		"a goal that is none": func(b *api.Book, _ *api.Judge) { b.Chans[0].Goal = -9 },
		"a rule that is long": func(b *api.Book, _ *api.Judge) { b.Chans[0].Fixed.App = rep(0x5b, 9999) },
		"holds that fall": func(_ *api.Book, j *api.Judge) {
			j.Holds = append(j.Holds, api.Hold{}, j.Holds[0], api.Hold{Asset: gold})
		},
		"many holds": func(_ *api.Book, j *api.Judge) { j.Holds = append(j.Holds, make([]api.Hold, 999)...) },
	} {
		for _, n := range []uint64{1, 5, 8} {
			b, j := sealed(t, bookOf(t, 0, f), f, with(1, split(t, 5, 3))), judgeOf(t, f, n)
			spoil(&b, &j)
			for _, c := range append(b.Chans, api.Chan{Id: state.Id(f)}, api.Chan{}) {
				Funded(j, c)
				Deposits(j, b, c.Id)
				if e, err := Ready(j, b, c.Id); err != api.OK && spelled(e) != spelled(api.Entry{}) {
					t.Errorf("%s: error %d, and %s", what, err, toldEntry(e))
				}
			}
		}
	}
	Funded(api.Judge{}, api.Chan{Kept: make([]api.Kept, 3)})
}
