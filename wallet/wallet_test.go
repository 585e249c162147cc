package wallet

import (
	"math"
	"slices"
	"testing"

	"truce/api"
	"truce/disk"
	"truce/log"
)

// P29.2, P29.3: the chapter's example.
func TestExample(t *testing.T) {
	f := channel(t, 2, bare)
	w := New()
	for i, a := range []api.Act{acKey(0), acOpen(f)} {
		next, r := Step(w, a, fresh())
		if r.Err != api.OK || len(r.Letters)+len(r.Txs) > 0 {
			t.Fatalf("act %d: %s", i, toldReply(r))
		}
		w = next
	}
	move := acMove(f, at(0))
	wantStep(t, "with power", w, move, fresh(), noted(t, w, enMine(t, f, at(0), 0)), sent(t, f, 0, at(0), 0))

	torn := w
	torn.Disk = disk.Arm(w.Disk, 3)
	failed, r := Step(torn, move, fresh())
	if r.Err != api.ErrPower || len(r.Letters) > 0 {
		t.Errorf("without power: %s", toldReply(r))
	}
	back := Boot(failed, 1)
	wantStep(t, "behind Boot", back, move, fresh(), noted(t, w, enMine(t, f, at(0), 0)), sent(t, f, 0, at(0), 0))
}

// P29.1: a new wallet.
func TestNew(t *testing.T) {
	want := api.Wallet{Disk: api.Disk{Fuse: -1}}
	if got := New(); spelled(got) != spelled(want) || !Same(got, want) || !Same(New(), New()) {
		t.Errorf("New is %s", told(got))
	}
}

// P29.1: Same goes field by field.
func TestSame(t *testing.T) {
	f := channel(t, 2, bare)
	base := func() api.Wallet { return holds(t, walletOf(t, 0, f), f, with(0, split(t, 5, 6)), 0) }
	all := []api.Wallet{{}, New(), walletOf(t, 0), walletOf(t, 0, f), walletOf(t, 1, f), base()}
	for _, change := range []func(*api.Wallet){
		func(w *api.Wallet) { w.Book.Key[3] = 1 }, func(w *api.Wallet) { w.Book.Who = "" },
		func(w *api.Wallet) { w.Book.Chans = nil }, func(w *api.Wallet) { w.Book.Chans[0].Me = 1 },
		func(w *api.Wallet) { w.Book.Chans[0].Mine = 9 }, func(w *api.Wallet) { w.Book.Chans[0].Goal = 1 },
		func(w *api.Wallet) { w.Book.Chans[0].Fixed.Time++ }, func(w *api.Wallet) { w.Book.Chans[0].Kept = nil },
		func(w *api.Wallet) { w.Book.Chans[0].Kept[0].Has[1] = true },
		func(w *api.Wallet) { w.Book.Chans[0].Kept[0].Seals[0].S[0]++ },
		func(w *api.Wallet) { w.Book.Chans[0].Kept[0].Var.Exits[0].Allocs[1].Amount[0]++ },
		func(w *api.Wallet) { w.Disk.Data = w.Disk.Data[1:] }, func(w *api.Wallet) { w.Disk.Data = "" },
		func(w *api.Wallet) { w.Disk.Tail = "a" }, func(w *api.Wallet) { w.Disk.Tail = "b" },
		func(w *api.Wallet) { w.Disk.Fuse = 0 }, func(w *api.Wallet) { w.Disk.Fuse = 7 },
		func(w *api.Wallet) { w.Disk.Off = true },
	} {
		w := base()
		change(&w)
		all = append(all, w)
	}
	for i, a := range all {
		for k, b := range all {
			if Same(a, b) != (i == k) {
				t.Errorf("Same is %t of %d, %s, and %d, %s", i != k, i, told(a), k, told(b))
			}
		}
	}
	if !Same(api.Wallet{}, api.Wallet{Book: api.Book{Chans: []api.Chan{}}}) {
		t.Error("an empty list is not none")
	}
}

// P29.3: what was torn goes, all else comes back, however much of it is kept.
func TestBoot(t *testing.T) {
	f := channel(t, 2, bare)
	w := holds(t, walletOf(t, 0, f), f, at(0), 0)
	record := recordOf(t, enSeen(t, f, at(1), 1))
	for _, n := range []int{0, 1, 7, 8, 9, len(record) - 1} {
		torn := off(w, record[:n])
		for _, keep := range []int{math.MinInt, -1, 0, 1, 7, 8, 9, n - 1, n, n + 1, math.MaxInt} {
			if got := Boot(torn, keep); spelled(got) != spelled(w) || spelled(torn) != spelled(off(w, record[:n])) {
				t.Errorf("%d of %d bytes kept: %s\nwant %s", keep, n, told(got), told(w))
			}
		}
	}
	for _, keep := range []int{-1, 0, 9} {
		for what, on := range map[string]api.Wallet{"with power": w, "with a fuse": armed(w, 5), "with a fuse of 0": armed(w, 0)} {
			if got := Boot(on, keep); spelled(got) != spelled(w) {
				t.Errorf("%s: %s\nwant %s", what, told(got), told(w))
			}
		}
	}
	if got := Boot(New(), 5); spelled(got) != spelled(New()) {
		t.Errorf("a new one: %s", told(got))
	}
}

// P29.3: what lasts is gone by, not what the wallet had: of any device.
func TestBootOthers(t *testing.T) {
	f := channel(t, 2, bare)
	w := holds(t, walletOf(t, 0, f), f, at(0), 0)
	more := recordOf(t, enSeen(t, f, at(1), 1))
	next := holds(t, w, f, at(1), 1)
	odd := log.Frame("no entry") + recordOf(t, enKey(1))
	passed := next
	passed.Disk.Data = w.Disk.Data + odd + more
	for _, row := range []struct {
		what       string
		data, tail string
		keep       int
		want       api.Wallet
	}{
		{"a whole record kept", w.Disk.Data, more, len(more), next},
		{"a whole record and more", w.Disk.Data, more + more[:9], len(more) + 9, next},
		{"a whole record lost", w.Disk.Data, more, len(more) - 1, w},
		{"torn ahead, whole behind", w.Disk.Data + more[:9], more, len(more), w},
		{"the rest of a record", w.Disk.Data + more[:9], more[9:], len(more), next},
		{"records that are passed over", w.Disk.Data + odd, more, len(more), passed},
		{"nothing whole", w.Disk.Data[:9], "abc", 2, New()},
	} {
		given := api.Wallet{Disk: api.Disk{Data: row.data, Tail: row.tail, Off: true}}
		for _, b := range []api.Book{{}, w.Book, next.Book} {
			given.Book = b
			if got := Boot(given, row.keep); spelled(got) != spelled(row.want) {
				t.Errorf("%s: %s\nwant %s", row.what, told(got), told(row.want))
			}
		}
	}
}

// actsOf are acts of all kinds, in new memory.
func actsOf(t testing.TB) []api.Act {
	t.Helper()
	f, l := channel(t, 2, bare), split(t, 5, 6)
	return []api.Act{
		acKey(0), acKey(1), acOpen(f), acOpen(numbered(t, 2, yes, 8)), acExit(f), acExit(numbered(t, 2, yes, 8)),
		acMove(f, with(1, l)), acHear(""), acHear(mailOf(t, f, with(1, l), 1)), acHear(mailOf(t, f, with(2, l), 1)), acLook(), {Kind: 9},
	}
}

// 0.5: what is told shares no memory with what was given, beside errors neither.
func TestOwnMemory(t *testing.T) {
	given := func() api.Wallet {
		f := channel(t, 2, bare)
		w := walletOf(t, 0, f, numbered(t, 2, bare, 9))
		return holds(t, holds(t, w, f, with(0, split(t, 5, 6)), 0), f, with(1, split(t, 5, 6)), 1)
	}
	for i := range actsOf(t) {
		for _, w := range []api.Wallet{given(), armed(given(), 5), off(given(), "")} {
			a := actsOf(t)[i]
			got, r := Step(w, a, fresh())
			before := spelled(got) + spelled(r)
			wipe(w.Book)
			clear(a.Fixed.Parts)
			for _, e := range a.Exits {
				clear(e.Allocs)
			}
			clear(a.Exits)
			if spelled(got)+spelled(r) != before {
				t.Errorf("act %d: what was told was changed with what was given", i)
			}
		}
	}
	w := given()
	got := Boot(w, 0)
	before := spelled(got)
	wipe(w.Book)
	if spelled(got) != before {
		t.Error("what Boot told was changed with what was given")
	}
}

// wipe overwrites all memory of a book's lists.
func wipe(b api.Book) {
	for _, c := range b.Chans {
		for _, k := range c.Kept {
			for _, e := range k.Var.Exits {
				clear(e.Allocs[:cap(e.Allocs)])
			}
			clear(k.Var.Exits[:cap(k.Var.Exits)])
			clear(k.Has[:cap(k.Has)])
			clear(k.Seals[:cap(k.Seals)])
		}
		clear(c.Kept[:cap(c.Kept)])
		clear(c.Fixed.Parts[:cap(c.Fixed.Parts)])
	}
	clear(b.Chans[:cap(b.Chans)])
}

// 0.1: wallets and chains that no call tells: each call ends, and none panics.
func TestUnfit(t *testing.T) {
	f := channel(t, 2, bare)
	v := with(5, split(t, 5, 6))
	next := with(6, split(t, 5, 6))
	for what, spoil := range map[string]func(*api.Wallet, *api.Chain){
		"no key":              func(w *api.Wallet, _ *api.Chain) { w.Book.Key = api.U{} },
		"no one":              func(w *api.Wallet, _ *api.Chain) { w.Book.Who = "" },
		"a short one":         func(w *api.Wallet, _ *api.Chain) { w.Book.Who = "x" },
		"me below":            func(w *api.Wallet, _ *api.Chain) { w.Book.Chans[0].Me = math.MinInt },
		"me above":            func(w *api.Wallet, _ *api.Chain) { w.Book.Chans[0].Me = 2 },
		"no participants":     func(w *api.Wallet, _ *api.Chain) { w.Book.Chans[0].Fixed.Parts = nil },
		"more participants":   func(w *api.Wallet, _ *api.Chain) { w.Book.Chans[0].Fixed.Parts = make([]string, 9) },
		"nothing fixed":       func(w *api.Wallet, _ *api.Chain) { w.Book.Chans[0].Fixed = api.Fixed{} },
		"no lists":            func(w *api.Wallet, _ *api.Chain) { w.Book.Chans[0].Kept[0].Has = nil },
		"no seals":            func(w *api.Wallet, _ *api.Chain) { w.Book.Chans[0].Kept[0].Seals = nil },
		"long lists":          func(w *api.Wallet, _ *api.Chain) { w.Book.Chans[0].Kept[0].Has = make([]bool, 9) },
		"a turn beyond all":   func(w *api.Wallet, _ *api.Chain) { w.Book.Chans[0].Kept[0].Var.Turn = math.MaxUint64 },
		"a state twice":       func(w *api.Wallet, _ *api.Chain) { k := &w.Book.Chans[0].Kept; *k = append(*k, (*k)[0]) },
		"many states":         func(w *api.Wallet, _ *api.Chain) { w.Book.Chans[0].Kept = make([]api.Kept, 99) },
		"a channel twice":     func(w *api.Wallet, _ *api.Chain) { w.Book.Chans = append(w.Book.Chans, w.Book.Chans[0]) },
		"a name that is none": func(w *api.Wallet, _ *api.Chain) { w.Book.Chans[0].Id = "" },
		"mine beyond all":     func(w *api.Wallet, _ *api.Chain) { w.Book.Chans[0].Mine = math.MaxUint64 },
		"a goal that is none": func(w *api.Wallet, _ *api.Chain) { w.Book.Chans[0].Goal = -9 },
		"a fuse far below":    func(w *api.Wallet, _ *api.Chain) { w.Disk.Fuse = math.MinInt },
		"a fuse far above":    func(w *api.Wallet, _ *api.Chain) { w.Disk.Fuse = math.MaxInt },
		"a long device":       func(w *api.Wallet, _ *api.Chain) { w.Disk.Data = rep(0, 1<<17+9) },
		"a tail":              func(w *api.Wallet, _ *api.Chain) { w.Disk.Tail = "tail" },
		"a long tail":         func(w *api.Wallet, _ *api.Chain) { w.Disk.Tail = rep(0, 1<<17+9) },
		"no book":             func(w *api.Wallet, _ *api.Chain) { w.Book = api.Book{} },
		"no moment":           func(_ *api.Wallet, c *api.Chain) { c.Now = math.MinInt },
		"the last moment":     func(_ *api.Wallet, c *api.Chain) { c.Now = math.MaxInt },
		"a count beyond all":  func(w *api.Wallet, c *api.Chain) { c.Counts[0].N = math.MaxUint64 },
		"counts that fall":    func(_ *api.Wallet, c *api.Chain) { slices.Reverse(c.Counts) },
		"cases twice":         func(_ *api.Wallet, c *api.Chain) { c.Judge.Cases = slices.Repeat(c.Judge.Cases, 3) },
		"a case of no time":   func(_ *api.Wallet, c *api.Chain) { c.Judge.Cases[0].Ends = math.MinInt },
		"holds twice":         func(_ *api.Wallet, c *api.Chain) { c.Judge.Holds = slices.Repeat(c.Judge.Holds, 3) },
	} {
		w := holds(t, walletOf(t, 0, f), f, v, 1)
		c := lays(t, challenged(t, fresh(), f, at(2)), f, 11)
		c.Counts = []api.Count{{Who: w.Book.Who, N: 4}, {Who: rep(255, 20), N: 1}}
		spoil(&w, &c)
		for _, w := range []api.Wallet{w, {Book: w.Book, Disk: disk.New()}, {Disk: w.Disk}} {
			for _, a := range []api.Act{
				acKey(0), acOpen(f), acOpen(numbered(t, 2, bare, 9)), acMove(f, next), acMove(f, final(next)), acExit(f), acLook(),
				acHear(mailOf(t, f, v, 0, 1)), acHear(mailOf(t, f, with(7, split(t, 6, 5)), 1)), {Kind: math.MinInt}, {Kind: math.MaxInt},
				{Kind: api.AcMove, Exits: make([]api.Exit, 99)}, {Kind: api.AcOpen, Fixed: api.Fixed{Parts: make([]string, 99)}},
				{Kind: api.AcExit, Channel: rep(0, 99)}, {Kind: api.AcKey, Key: api.U{top, top, top, top}},
			} {
				before := spelled(w) + spelled(a) + spelled(c)
				got, r := Step(w, a, c)
				if r.Err != api.OK && len(r.Txs) > 0 || spelled(w)+spelled(a)+spelled(c) != before {
					t.Errorf("%s: %s", what, toldReply(r))
				}
				Boot(got, 3)
			}
		}
		if !Same(w, w) {
			t.Errorf("%s: not the same as itself", what)
		}
	}
}

// P29.2: a state that is kept no more goes with its own seal alone; one that is kept with all that are.
func TestSigned(t *testing.T) {
	f := channel(t, 4, yes)
	v := at(9)
	e := enMine(t, f, v, 2)
	w := holds(t, walletOf(t, 2, f), f, v, 3, 0)
	for _, row := range []struct {
		what  string
		c     api.Chan
		parts []int
	}{
		{"nothing kept", walletOf(t, 2, f).Book.Chans[0], []int{2}},
		{"others kept", holds(t, walletOf(t, 2, f), f, at(8), 0, 1).Book.Chans[0], []int{2}},
		{"kept", holds(t, w, f, v, 2).Book.Chans[0], []int{0, 2, 3}},
		{"kept by others", w.Book.Chans[0], []int{0, 3}},
		{"kept behind another one", holds(t, holds(t, walletOf(t, 2, f), f, at(8), 0, 1), f, v, 2).Book.Chans[0], []int{2}},
	} {
		want := api.Signed{Var: v}
		for _, part := range row.parts {
			want.Seals = append(want.Seals, sealOf(t, f, v, part))
		}
		if got := signed(row.c, e); spelled(got) != spelled(want) {
			t.Errorf("%s: %d seals of turn %d, want %d", row.what, len(got.Seals), got.Var.Turn, len(want.Seals))
		}
	}
}

// What is no error of an act goes on, whatever was thrown.
func TestCatch(t *testing.T) {
	for _, thrown := range []any{api.ErrForm, "a fault", 2} {
		var w worker
		left := func() (left any) {
			defer func() { left = recover() }()
			defer w.catch()
			panic(thrown)
		}()
		if err, ours := thrown.(api.Errno); ours && (left != nil || w.Err != err) || !ours && (left != thrown || w.Err != api.OK) {
			t.Errorf("%v: left %v, error %d", thrown, left, w.Err)
		}
	}
}
