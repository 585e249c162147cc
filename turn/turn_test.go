package turn

import (
	"fmt"
	"math"
	"testing"

	"truce/api"
	"truce/book"
	"truce/state"
)

// A game of some, turn by turn: without a rule each is answered by all and supported at once; with one it is supported once each has moved.
func TestGame(t *testing.T) {
	for parts := 2; parts <= 4; parts++ {
		for _, says := range []string{bare, yes} {
			f := channel(t, parts, says)
			var books []api.Book
			for me := range parts {
				books = append(books, bookOf(t, me, f))
			}
			for turn := range uint64(4 * parts) {
				v := at(turn)
				if turn >= uint64(2*parts) {
					v.Data = fmt.Sprint(turn)
				}
				books = played(t, f, books, v)
				wantNewest(t, f, books, turn)
			}
		}
	}
}

// played are books behind a turn, whose state and answers come to all.
func played(t testing.TB, f api.Fixed, books []api.Book, v api.Var) []api.Book {
	t.Helper()
	mover := int(v.Turn) % len(f.Parts)
	e, err := Propose(books[mover], state.Id(f), v.Data, v.Exits, v.Final)
	wantEntry(t, fmt.Sprint("turn ", v.Turn), e, err, enMine(t, f, v, mover), api.OK)
	books[mover] = takes(t, books[mover], e)
	sent := []api.Signed{{Var: e.Var, Seals: []api.Seal{e.Seal}}}
	for len(sent) > 0 {
		for me := range books {
			l, err := Accept(books[me], state.Id(f), sent[0])
			if err != api.OK {
				t.Fatalf("turn %d for %d: error %d", v.Turn, me, err)
			}
			books[me] = takes(t, books[me], l...)
			if more, err := Answer(books[me], state.Id(f)); err == api.OK {
				books[me] = takes(t, books[me], more)
				sent = append(sent, api.Signed{Var: more.Var, Seals: []api.Seal{more.Seal}})
			}
		}
		sent = sent[1:]
	}
	return books
}

// wantNewest fails the test unless a turn is the newest that all books support, once each has moved.
func wantNewest(t testing.TB, f api.Fixed, books []api.Book, turn uint64) {
	t.Helper()
	for me, b := range books {
		best := book.Best(b.Chans[0])
		switch {
		case turn+1 < uint64(len(f.Parts)):
			if len(best) > 0 {
				t.Errorf("turn %d for %d: supported too early", turn, me)
			}
		case len(best) == 0 || best[len(best)-1].Var.Turn != turn:
			t.Errorf("turn %d for %d: not supported", turn, me)
		case f.App == "" && turn >= uint64(2*len(f.Parts)) && len(best) != 1:
			t.Errorf("turn %d for %d: supported by %d", turn, me, len(best))
		}
	}
}

// 0.5: what is told shares no memory with what was given, nor one entry with another.
func TestOwnMemory(t *testing.T) {
	f := channel(t, 3, bare)
	b := holds(t, bookOf(t, 0, f), f, with(5, split(t, 5, 6)), 1)
	l := split(t, 6, 5)
	e, err := Propose(b, state.Id(f), "d", l, false)
	wantEntry(t, "proposed", e, err, enMine(t, f, with(6, split(t, 6, 5)), 0), api.OK)
	l[0].Allocs[0].Amount, l[0].Asset = all, wool
	wantEntry(t, "proposed, behind a change", e, err, enMine(t, f, with(6, split(t, 6, 5)), 0), api.OK)
	e.Var.Exits[0].Allocs[1].Amount, e.Var.Exits[0].Asset = all, ""

	s := signed(t, f, with(6, split(t, 6, 5)), 0, 1, 2)
	seen, err := Accept(b, state.Id(f), s)
	s.Var.Exits[0].Allocs[0].Amount, s.Var.Exits[0].Asset, s.Seals[1] = all, wool, api.Seal{}
	want := []api.Entry{enSeen(t, f, with(6, split(t, 6, 5)), 1), enSeen(t, f, with(6, split(t, 6, 5)), 2)}
	wantEntries(t, "seen, behind a change", seen, err, want, api.OK)
	seen[0].Var.Exits[0].Allocs[0].Amount, seen[0].Var.Exits[0].Asset = all, wool
	wantEntries(t, "the second one, behind a change", seen[1:], err, want[1:], api.OK)

	b = holds(t, b, f, with(6, split(t, 6, 5)), 1)
	before := spelled(b)
	e, err = Answer(b, state.Id(f))
	wantEntry(t, "answered", e, err, enMine(t, f, with(6, split(t, 6, 5)), 0), api.OK)
	e.Var.Exits[0].Allocs[0].Amount, e.Var.Exits[0].Asset = all, ""
	if spelled(b) != before {
		t.Error("the book is changed by what was told")
	}
}

// 0.1: books that no call tells: each call ends, and none panics.
func TestUnfitBooks(t *testing.T) {
	f := channel(t, 2, bare)
	for what, spoil := range map[string]func(*api.Book){
		"no key":               func(b *api.Book) { b.Key = api.U{} },
		"no one":               func(b *api.Book) { b.Who = "" },
		"a short one":          func(b *api.Book) { b.Who = "x" },
		"me below":             func(b *api.Book) { b.Chans[0].Me = -1 },
		"me far below":         func(b *api.Book) { b.Chans[0].Me = math.MinInt },
		"me above":             func(b *api.Book) { b.Chans[0].Me = 2 },
		"me far above":         func(b *api.Book) { b.Chans[0].Me = math.MaxInt },
		"no participants":      func(b *api.Book) { b.Chans[0].Fixed.Parts = nil },
		"one participant":      func(b *api.Book) { b.Chans[0].Fixed.Parts = b.Chans[0].Fixed.Parts[:1] },
		"more participants":    func(b *api.Book) { b.Chans[0].Fixed.Parts = make([]string, 9) },
		"nothing fixed":        func(b *api.Book) { b.Chans[0].Fixed = api.Fixed{} },
		"no lists":             func(b *api.Book) { b.Chans[0].Kept[0].Has, b.Chans[0].Kept[0].Seals = nil, nil },
		"one has":              func(b *api.Book) { b.Chans[0].Kept[0].Has = []bool{true} },
		"one seal":             func(b *api.Book) { b.Chans[0].Kept[0].Seals = b.Chans[0].Kept[0].Seals[:1] },
		"long lists":           func(b *api.Book) { b.Chans[0].Kept[0].Has = make([]bool, 9) },
		"a turn beyond all":    func(b *api.Book) { b.Chans[0].Kept[0].Var.Turn = math.MaxUint64 },
		"data beyond all":      func(b *api.Book) { b.Chans[0].Kept[0].Var.Data = rep(1, 999) },
		"exits that fall":      func(b *api.Book) { b.Chans[0].Kept[0].Var.Exits = []api.Exit{exit(wool), exit(gold)} },
		"sums beyond all":      func(b *api.Book) { b.Chans[0].Kept[0].Var.Exits[0].Allocs[0].Amount = all },
		"a state twice":        func(b *api.Book) { b.Chans[0].Kept = append(b.Chans[0].Kept, b.Chans[0].Kept[0]) },
		"many states":          func(b *api.Book) { b.Chans[0].Kept = make([]api.Kept, 99) },
		"a channel twice":      func(b *api.Book) { b.Chans = append(b.Chans, b.Chans[0]) },
		"a name that is none":  func(b *api.Book) { b.Chans[0].Id = "" },
		"mine beyond all":      func(b *api.Book) { b.Chans[0].Mine = math.MaxUint64 },
		"a goal that is none":  func(b *api.Book) { b.Chans[0].Goal = -9 },
		"a rule that is long":  func(b *api.Book) { b.Chans[0].Fixed.App = rep(0x5b, 9999) },
		"a time that is none":  func(b *api.Book) { b.Chans[0].Fixed.Time = -1 },
		"a channel of its own": func(b *api.Book) { b.Chans[0].Fixed.Parts[1] = b.Chans[0].Fixed.Parts[0] },
	} {
		b := holds(t, bookOf(t, 0, f), f, with(7, split(t, 5, 6)), 1)
		spoil(&b)
		for _, c := range append(b.Chans, api.Chan{Id: state.Id(f)}) {
			for _, v := range []api.Var{{}, at(7), at(8), final(with(8, split(t, 5, 6))), with(8, split(t, 6, 5)), at(api.MaxTurn)} {
				e, err := Propose(b, c.Id, v.Data, v.Exits, v.Final)
				wantZero(t, what, []api.Entry{e}, err)
				l, err := Accept(b, c.Id, signed(t, f, v, 0, 1))
				wantZero(t, what, l, err)
				e, err = Answer(b, c.Id)
				wantZero(t, what, []api.Entry{e}, err)
				tied := []api.Exit{exit(gold, bound(t, f, 0, 1, 5), plain(t, 0, 1))}
				Worth(b, tied, gold)
				Worth(b, v.Exits, gold)
			}
		}
	}
}

// wantZero fails the test if something is told beside an error.
func wantZero(t testing.TB, what string, l []api.Entry, err api.Errno) {
	t.Helper()
	for _, e := range l {
		if err != api.OK && spelled(e) != spelled(api.Entry{}) {
			t.Errorf("%s: error %d, and %s", what, err, toldEntry(e))
		}
	}
}
