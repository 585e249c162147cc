package world

import (
	"math"
	"slices"
	"testing"

	"truce/api"
	"truce/book"
	"truce/log"
	"truce/num"
	"truce/state"
	"truce/wallet"
)

// P30.1: the chapter's example, and the number of each thing that it leaves.
func TestExample(t *testing.T) {
	f := channel(t, bare, 0, 1)
	l := []api.Move{open(0, f), open(1, f), turns(0, f, with(0, nil)), post(0)}
	w := Run(2, l)
	c, ok := book.Find(w.Wallets[1].Book, state.Id(f))
	if !ok || toldChan(c) != "mine 0 kept 0 best none" || !slices.Equal(c.Kept[0].Has, []bool{true, false}) {
		t.Errorf("the second one's book keeps it: %t, %s", ok, toldChan(c))
	}
	if len(w.Posts) != 1 || len(w.Txs) != 0 || len(w.Chain.Coins) != 0 {
		t.Error(told(w))
	}
	wantWhole(t, "the example", w)
}

// P30.1: a new world has the chain's first moment, and from 1 to 3 wallets with the keys 1, 2, 3.
func TestNew(t *testing.T) {
	whos := []string{
		"\x7e\x5f\x45\x52\x09\x1a\x69\x12\x5d\x5d\xfc\xb7\xb8\xc2\x65\x90\x29\x39\x5b\xdf",
		"\x2b\x5a\xd5\xc4\x79\x5c\x02\x65\x14\xf8\x31\x7c\x7a\x21\x5e\x21\x8d\xcc\xd6\xcf",
		"\x68\x13\xeb\x93\x62\x37\x2e\xef\x62\x00\xf3\xb1\xdb\xc3\xf8\x19\x67\x1c\xba\x69",
	}
	for n, many := range map[int]int{math.MinInt: 1, -1: 1, 0: 1, 1: 1, 2: 2, 3: 3, 4: 3, 9: 3, math.MaxInt: 3} {
		want := api.World{Chain: api.Chain{Now: 1}}
		for k, who := range whos[:many] {
			one := num.Of(uint64(k + 1))
			data := log.Frame(book.Write(api.Entry{Kind: api.EnKey, Key: one}))
			want.Wallets = append(want.Wallets, api.Wallet{Book: api.Book{Key: one, Who: who}, Disk: api.Disk{Data: data, Fuse: -1}})
		}
		got := New(n)
		if spelled(got) != spelled(want) || !Same(got, want) || spelled(plainNew(n)) != spelled(want) {
			t.Errorf("New of %d is %s\nwant %s", n, told(got), told(want))
		}
		if spelled(Run(n, nil)) != spelled(want) {
			t.Errorf("Run of %d, nothing, is %s", n, told(Run(n, nil)))
		}
	}
}

// busy is a world of two wallets with something in each of its fields, which are new memory each time.
func busy(t testing.TB) api.World {
	t.Helper()
	f := channel(t, bare, 0, 1)
	v := with(0, split(f, 4, 5))
	return behind(t, New(2), mint(0, 9, gold), mint(0, 9, fee), mint(1, 9, gold), open(0, f), open(1, f),
		turns(0, f, v), post(0), turns(1, f, v), post(1), look(0), take(0), look(1), exit(0, f), look(0), take(2))
}

// P30.1: Same goes field by field.
func TestSame(t *testing.T) {
	all := []api.World{{}, New(1), New(2), New(3), busy(t)}
	for _, change := range []func(*api.World){
		func(w *api.World) { w.Chain = api.Chain{} }, func(w *api.World) { w.Chain.Now++ },
		func(w *api.World) { w.Chain.Coins[0].Amount[3]++ }, func(w *api.World) { w.Chain.Counts[0].N++ },
		func(w *api.World) { w.Chain.Judge.Holds[0].Amount[0]++ }, func(w *api.World) { w.Chain.Judge.Cases[0].Ends++ },
		func(w *api.World) { w.Wallets = nil }, func(w *api.World) { w.Wallets = w.Wallets[:1] },
		func(w *api.World) { slices.Reverse(w.Wallets) }, func(w *api.World) { w.Wallets[1].Book.Key[0]++ },
		func(w *api.World) { w.Wallets[1].Book.Chans[0].Kept[0].Has[0] = false },
		func(w *api.World) { w.Wallets[0].Disk.Fuse = 3 }, func(w *api.World) { w.Wallets[0].Disk.Data += "a" },
		func(w *api.World) { w.Posts = nil }, func(w *api.World) { w.Posts = w.Posts[:1] },
		func(w *api.World) { slices.Reverse(w.Posts) }, func(w *api.World) { w.Posts[1].From = 0 },
		func(w *api.World) { w.Posts[1].To = "" }, func(w *api.World) { w.Posts[1].Raw += "a" },
		func(w *api.World) { w.Txs = nil }, func(w *api.World) { w.Txs = w.Txs[1:] },
		func(w *api.World) { slices.Reverse(w.Txs) }, func(w *api.World) { w.Txs[1] += "a" },
	} {
		w := busy(t)
		change(&w)
		all = append(all, w)
	}
	for i, a := range all {
		for k, b := range all {
			if Same(a, b) != (i == k) {
				t.Errorf("Same is %t of %d, %s, and %d, %s", i != k, i, told(a), k, told(b))
			}
		}
	}
	if !Same(New(1), Run(1, nil)) || !Same(api.World{}, api.World{Wallets: []api.Wallet{}, Posts: []api.Post{}, Txs: []string{}}) {
		t.Error("an empty list is not none")
	}
}

// P30.2: Run is New, and a Step of each move; errors are passed over.
func TestRun(t *testing.T) {
	f := channel(t, bare, 0, 1)
	v := with(0, split(f, 4, 5))
	l := []api.Move{
		post(0), take(0), {Kind: 99}, mint(0, 9, gold), mint(2, 9, gold), mint(0, 9, fee), mint(1, 7, "odd"), open(0, f), open(0, f), turns(0, f, v), post(1),
		post(0), open(1, f), post(0), post(0), turns(1, f, v), arm(0, 5), post(1), crash(0, 2), look(0), post(1), look(0), take(0), take(0), take(1), tick(-1), tick(4),
	}
	w, said := New(2), plainNew(2)
	var errs []api.Errno
	for i, m := range l {
		next, err := Step(w, m)
		w, errs = next, append(errs, err)
		said, _ = plainStep(said, m)
		before := spelled(l)
		if got := Run(2, l[:i+1]); spelled(got) != spelled(w) || spelled(got) != spelled(said) || spelled(l) != before {
			t.Errorf("Run of %d moves: %s\nwant %s", i+1, told(got), told(w))
		}
	}
	want := []api.Errno{9, 9, 2, 0, 9, 0, 2, 0, 10, 0, 9, 9, 0, 0, 0, 0, 0, 26, 0, 0, 0, 0, 0, 17, 9, 23, 0}
	if !slices.Equal(errs, want) {
		t.Errorf("errors %v\nwant   %v", errs, want)
	}
	wantWhole(t, "run", w)
}

// P30.2: at most 1000 moves, those with an error and those of no kind counted.
func TestRunBounds(t *testing.T) {
	for _, row := range []struct {
		what string
		l    []api.Move
		now  int
	}{
		{"none", nil, 1},
		{"999", slices.Repeat([]api.Move{tick(1)}, 999), 1000},
		{"1000", slices.Repeat([]api.Move{tick(1)}, 1000), 1001},
		{"1001", slices.Repeat([]api.Move{tick(1)}, 1001), 1001},
		{"3000", slices.Repeat([]api.Move{tick(2)}, 3000), 2001},
		{"every other one wrong", slices.Repeat([]api.Move{tick(1), tick(-1)}, 700), 501},
		{"every other one of no kind", slices.Repeat([]api.Move{{}, tick(1)}, 700), 501},
		{"the last one of 1000", append(slices.Repeat([]api.Move{{}}, 999), tick(6), tick(1)), 7},
		{"behind 1000", append(slices.Repeat([]api.Move{{}}, 1000), tick(6)), 1},
	} {
		want := New(2)
		want.Chain.Now = row.now
		if got := Run(2, row.l); spelled(got) != spelled(want) {
			t.Errorf("%s: %s", row.what, told(got))
		}
	}
}

// movesOf is a move of each kind, with and without an error.
func movesOf(t testing.TB) []api.Move {
	t.Helper()
	f, g := channel(t, bare, 0, 1), channel(t, yes, 0, 1)
	v := with(1, split(f, 4, 5))
	return []api.Move{
		{}, mint(0, 1, gold), mint(0, 1, "odd"), mint(9, 1, gold), open(0, g), open(1, f), turns(0, g, v), look(1), exit(1, f), act(0, api.Act{Kind: api.AcKey}),
		post(0), post(1), post(9), hear(0, mailOf(t, f, v, 1)), hear(0, "odd"), take(0), take(1), take(2), take(9), tx("odd"),
		tick(2), tick(-2), arm(0, 4), crash(0, 3),
	}
}

// 0.5: what is told shares no memory with what was given, beside errors neither; no two lists of it share any.
func TestOwnMemory(t *testing.T) {
	for i := range movesOf(t) {
		m, w := movesOf(t)[i], busy(t)
		got, _ := Step(w, m)
		before := spelled(got)
		wipe(w)
		clear(m.Act.Fixed.Parts)
		for _, e := range m.Act.Exits {
			clear(e.Allocs)
		}
		if spelled(got) != before {
			t.Errorf("kind %d, %d: what was told was changed with what was given", m.Kind, i)
		}
		again, _ := Step(got, m)
		before = spelled(again)
		wipe(got)
		if spelled(again) != before {
			t.Errorf("kind %d, %d: what was told then was changed with what was told first", m.Kind, i)
		}
	}
	f := channel(t, bare, 0, 1)
	l := []api.Move{open(0, f), turns(0, f, with(0, split(f, 1, 2)))}
	got := Run(2, l)
	before := spelled(got)
	clear(l[0].Act.Fixed.Parts)
	clear(l[1].Act.Exits[0].Allocs)
	clear(l)
	if spelled(got) != before {
		t.Error("what Run told was changed with what was given")
	}
	other := New(2)
	before = spelled(other)
	wipe(New(2))
	if spelled(other) != before {
		t.Error("two new worlds share memory")
	}
}

// 0.5: two worlds behind one have nothing of each other.
func TestTwoBehindOne(t *testing.T) {
	f := channel(t, bare, 0, 1)
	w := busy(t)
	before := spelled(w)
	one := behind(t, w, open(0, channel(t, yes, 0, 1)), turns(0, channel(t, yes, 0, 1), with(0, split(f, 1, 1))))
	said := spelled(one)
	two := behind(t, w, open(1, channel(t, yes, 0, 1, outsider)), exit(1, f), look(1))
	if spelled(one) != said || spelled(w) != before || len(one.Posts) != len(w.Posts)+1 || len(two.Posts) != len(w.Posts) {
		t.Errorf("one: %s\ntwo: %s", told(one), told(two))
	}
}

// wipe overwrites all memory of a world's lists.
func wipe(w api.World) {
	for _, x := range w.Wallets {
		for _, c := range x.Book.Chans {
			for _, k := range c.Kept {
				wipeExits(k.Var.Exits)
				clear(k.Has[:cap(k.Has)])
				clear(k.Seals[:cap(k.Seals)])
			}
			clear(c.Kept[:cap(c.Kept)])
			clear(c.Fixed.Parts[:cap(c.Fixed.Parts)])
		}
		clear(x.Book.Chans[:cap(x.Book.Chans)])
	}
	for _, c := range w.Chain.Judge.Cases {
		wipeExits(c.Exits)
	}
	clear(w.Chain.Judge.Cases[:cap(w.Chain.Judge.Cases)])
	clear(w.Chain.Judge.Holds[:cap(w.Chain.Judge.Holds)])
	clear(w.Chain.Coins[:cap(w.Chain.Coins)])
	clear(w.Chain.Counts[:cap(w.Chain.Counts)])
	clear(w.Wallets[:cap(w.Wallets)])
	clear(w.Posts[:cap(w.Posts)])
	clear(w.Txs[:cap(w.Txs)])
}

func wipeExits(l []api.Exit) {
	for _, e := range l {
		clear(e.Allocs[:cap(e.Allocs)])
	}
	clear(l[:cap(l)])
}

// 0.1: worlds that no call tells, and moves with all kinds of numbers: each call ends, and none panics.
func TestUnfit(t *testing.T) {
	odd := []int{math.MinInt, -1, 0, 1, 2, 3, 9, 10, math.MaxInt}
	for what, spoil := range map[string]func(*api.World){
		"nothing":            func(w *api.World) { *w = api.World{} },
		"no wallets":         func(w *api.World) { w.Wallets = nil },
		"many wallets":       func(w *api.World) { w.Wallets = slices.Repeat(w.Wallets, 9) },
		"empty wallets":      func(w *api.World) { w.Wallets = make([]api.Wallet, 4) },
		"no moment":          func(w *api.World) { w.Chain.Now = math.MinInt },
		"the last moment":    func(w *api.World) { w.Chain.Now = math.MaxInt },
		"coins twice":        func(w *api.World) { w.Chain.Coins = slices.Repeat(w.Chain.Coins, 3) },
		"posts from nobody":  func(w *api.World) { w.Posts[0].From, w.Posts[1].From = math.MinInt, math.MaxInt },
		"empty posts":        func(w *api.World) { w.Posts = make([]api.Post, 9) },
		"empty transactions": func(w *api.World) { w.Txs = make([]string, 9) },
		"me beyond all":      func(w *api.World) { w.Wallets[0].Book.Chans[0].Me = math.MaxInt },
		"no lists":           func(w *api.World) { w.Wallets[0].Book.Chans[0].Kept[0].Has = nil },
		"a channel twice":    func(w *api.World) { b := &w.Wallets[0].Book; b.Chans = append(b.Chans, b.Chans[0]) },
		"a long device":      func(w *api.World) { w.Wallets[0].Disk.Data = rep(0, 1<<17+9) },
		"a fuse far above":   func(w *api.World) { w.Wallets[0].Disk.Fuse = math.MaxInt },
	} {
		w := busy(t)
		spoil(&w)
		before := spelled(w)
		for _, n := range odd {
			for _, kind := range odd {
				Step(w, api.Move{Kind: kind, Who: n, N: n})
				Step(w, api.Move{Kind: kind, N: n, Asset: gold, Amount: api.U{0, 0, 0, math.MaxUint64}})
			}
		}
		for _, m := range movesOf(t) {
			Step(w, m)
		}
		if spelled(w) != before || !Same(w, w) {
			t.Errorf("%s: changed, or not the same as itself", what)
		}
	}
	for _, n := range odd {
		Run(n, make([]api.Move, 2))
	}
}

// P30.1: New's wallets are as wallet.New, told their key: one that is told another key has ErrThere.
func TestKeyed(t *testing.T) {
	w := New(1)
	refuses(t, "another key", w, act(0, api.Act{Kind: api.AcKey, Key: num.Of(2)}), api.ErrThere)
	x, r := wallet.Step(wallet.New(), api.Act{Kind: api.AcKey, Key: num.Of(1)}, w.Chain)
	if r.Err != api.OK || !wallet.Same(x, w.Wallets[0]) {
		t.Errorf("error %d, %s", r.Err, told(w))
	}
}
