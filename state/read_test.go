package state

import (
	"fmt"
	"math/big"
	"testing"

	"truce/api"
	"truce/word"
)

// wide is a number as an item: so much, and so many a power of 2.
func wide(low uint64, power uint) item {
	return item{word: wordOf(new(big.Int).Add(big2(power), new(big.Int).SetUint64(low)))}
}

// parts of a state's bytes that are as they should be, of which each test changes one.
func anAlloc() []item  { return []item{raw(dest(1)), n(5), n(0), n(0), n(0)} }
func aBound() []item   { return []item{raw(dest(1)), n(5), n(1), raw(dest(2)), raw(dest(3))} }
func aState() []item   { return []item{n(3), n(0), text("d"), list()} }
func aChannel() []item { return []item{list(raw(who(1)), raw(who(2))), n(7), text("ab"), n(5)} }

// with is items of which one is another.
func with(l []item, at int, x item) []item {
	l[at] = x
	return l
}

// ofExits is a state's bytes with exits, each written as its asset and its allocations.
func ofExits(l ...item) string { return row(with(aState(), 3, list(l...))...) }

// ofAllocs is that of one exit.
func ofAllocs(l ...[]item) string { return ofExits(anExit(raw(who(1)), l...)) }

func anExit(asset item, l ...[]item) item {
	return list(asset, list(each(l, func(a []item) item { return list(a...) })...))
}

// wantVar holds Read against what is said here of bytes.
func wantVar(tc *testing.T, s string, want api.Errno) {
	tc.Helper()
	if _, err := reads(tc, s); err != want {
		tc.Errorf("Read(%x) is %v", s, err)
	}
}

// wantFixed holds ReadFixed so.
func wantFixed(tc *testing.T, l []item, want api.Errno) {
	tc.Helper()
	if _, err := readsFixed(tc, row(l...)); err != want {
		tc.Errorf("ReadFixed(%x) is %v", row(l...), err)
	}
}

// fine is api.OK, if something holds.
func fine(holds bool) api.Errno {
	if holds {
		return api.OK
	}
	return api.ErrForm
}

// P10.3: turns, finals and data at their bounds, and numbers that have more bits than their fields.
func TestReadVarBounds(tc *testing.T) {
	wantVar(tc, row(aState()...), api.OK)
	for _, turn := range []uint64{0, 1, 1<<40 - 1, 1 << 40, 1<<40 + 1, 1 << 63, top} {
		wantVar(tc, row(with(aState(), 0, n(turn))...), fine(turn <= 1<<40))
	}
	for _, flag := range []uint64{0, 1, 2, 3, 256, 257, 1 << 32, 1<<32 + 1, 1 << 63, top} {
		wantVar(tc, row(with(aState(), 1, n(flag))...), fine(flag <= 1))
	}
	for _, power := range []uint{64, 65, 127, 128, 192, 255} {
		for low := range uint64(3) {
			for at := range 2 {
				wantVar(tc, row(with(aState(), at, wide(low, power))...), api.ErrForm)
			}
		}
	}
	for _, long := range []int{0, 31, 32, 33, 255, 256, 257, 288, 512, 16384, 16385} {
		wantVar(tc, row(with(aState(), 2, text(rep(1, long)))...), fine(long <= 256))
	}
}

// P10.3: exits: how many, and their assets.
func TestReadExits(tc *testing.T) {
	for many := range 7 {
		var l []item
		for i := range many {
			l = append(l, anExit(raw(who(byte(i))), anAlloc()))
		}
		wantVar(tc, ofExits(l...), fine(many <= 3))
	}
	for _, power := range []uint{64, 128, 159, 160, 161, 192, 255} {
		for low := range uint64(3) {
			wantVar(tc, ofExits(anExit(wide(low, power), anAlloc())), fine(power < 160))
			wantVar(tc, ofExits(anExit(n(low)), anExit(wide(low, power))), fine(power < 160))
		}
	}
	for a := range byte(4) {
		for b := range byte(4) {
			wantVar(tc, ofExits(anExit(raw(who(a))), anExit(raw(who(b)))), fine(a < b))
		}
	}
	for _, wrong := range []item{n(0), text(""), list(), list(n(1)), list(n(1), n(2)), list(n(1), list(), n(2)), list(list(), n(1)), list(n(1), text("a"))} {
		got, err := reads(tc, ofExits(wrong))
		if err != api.ErrForm {
			tc.Errorf("Read with another exit is %v, %v", got, err)
		}
	}
}

// P10.3: allocations: how many, their kinds and what these need, their amounts.
func TestReadAllocs(tc *testing.T) {
	for many := range 12 {
		var l [][]item
		for range many {
			l = append(l, anAlloc())
		}
		wantVar(tc, ofAllocs(l...), fine(many <= 8))
	}
	wantVar(tc, ofAllocs(aBound(), anAlloc()), api.OK)
	for _, kind := range []item{n(2), n(3), n(256), n(257), n(1 << 32), n(1<<32 + 1), n(1 << 63), n(top), wide(0, 64), wide(1, 64), wide(0, 128), wide(1, 128), wide(0, 255), wide(1, 255)} {
		wantVar(tc, ofAllocs(with(anAlloc(), 2, kind)), api.ErrForm)
		wantVar(tc, ofAllocs(anAlloc(), with(aBound(), 2, kind)), api.ErrForm)
	}
	for _, side := range []item{n(1), n(top), wide(0, 64), wide(0, 160), wide(0, 255), raw(dest(255))} {
		for at := 3; at <= 4; at++ {
			wantVar(tc, ofAllocs(with(anAlloc(), at, side)), api.ErrForm)
			wantVar(tc, ofAllocs(with(aBound(), at, side)), api.OK)
			wantVar(tc, ofAllocs(with(aBound(), at, n(0))), api.OK)
		}
		wantVar(tc, ofAllocs(with(anAlloc(), 0, side)), api.OK)
	}
	most := raw(dest(255))
	wantVar(tc, ofAllocs(with(anAlloc(), 1, most)), api.OK)
	wantVar(tc, ofAllocs(with(anAlloc(), 1, most), with(aBound(), 1, n(0))), api.OK)
	wantVar(tc, ofAllocs(with(anAlloc(), 1, most), with(aBound(), 1, n(1))), api.ErrForm)
	wantVar(tc, ofAllocs(with(anAlloc(), 1, wide(0, 255)), with(anAlloc(), 1, wide(0, 255))), api.ErrForm)
	wantVar(tc, ofExits(anExit(raw(who(1)), with(anAlloc(), 1, most)), anExit(raw(who(2)), with(aBound(), 1, most))), api.OK)
	wantVar(tc, ofAllocs(anAlloc()[:4]), api.ErrForm)
	wantVar(tc, ofAllocs(append(anAlloc(), n(0))), api.ErrForm)
}

// P10.3: channels at their bounds, and numbers that have more bits than their fields.
func TestReadFixedBounds(tc *testing.T) {
	wantFixed(tc, aChannel(), api.OK)
	for many := range 8 {
		var l []item
		for i := range many {
			l = append(l, raw(who(byte(9-i))))
		}
		wantFixed(tc, with(aChannel(), 0, list(l...)), fine(many >= 2 && many <= 4))
		for at := range l {
			for other := range at {
				m := append([]item{}, l...)
				m[at] = m[other]
				wantFixed(tc, with(aChannel(), 0, list(m...)), api.ErrForm)
			}
		}
	}
	for _, power := range []uint{64, 128, 159, 160, 161, 192, 255} {
		for low := range uint64(6) {
			wantFixed(tc, with(aChannel(), 0, list(wide(low, power), raw(who(2)))), fine(power < 160))
			wantFixed(tc, with(aChannel(), 0, list(raw(who(2)), wide(low, power))), fine(power < 160))
			wantFixed(tc, with(aChannel(), 1, wide(low, power)), api.ErrForm)
			wantFixed(tc, with(aChannel(), 3, wide(low, power)), api.ErrForm)
		}
	}
	for _, nonce := range []uint64{0, 1, 1 << 63, top} {
		wantFixed(tc, with(aChannel(), 1, n(nonce)), api.OK)
	}
	for _, time := range []uint64{0, 1, 2, 1<<20 - 1, 1 << 20, 1<<20 + 1, 1 << 32, 1<<32 + 1, 1 << 63, 1<<63 + 1, top} {
		wantFixed(tc, with(aChannel(), 3, n(time)), fine(time >= 1 && time <= 1<<20))
	}
	for _, long := range []int{0, 31, 32, 33, 511, 512, 513, 544, 16384, 16385} {
		wantFixed(tc, with(aChannel(), 2, text(rep(1, long))), fine(long <= 512))
	}
}

// P10.3: other forms, a channel's for a state's and back, and no bytes at all.
func TestReadOthers(tc *testing.T) {
	for _, v := range madeVars() {
		readsFixed(tc, Write(v))
		if _, err := ReadFixed(Write(v)); err != api.ErrForm {
			tc.Errorf("ReadFixed of a state is %v", err)
		}
	}
	for _, f := range madeFixed() {
		wantVar(tc, WriteFixed(f), api.ErrForm)
	}
	for _, s := range []string{"", "\x00", rep(0, 31), rep(0, 32), rep(0, 128), rep(255, 128), rep(0, 192), rep(255, 4096), rep(0, 100000), word.Encode(nil)} {
		wantVar(tc, s, api.ErrForm)
		if _, err := readsFixed(tc, s); err != api.ErrForm {
			tc.Errorf("ReadFixed(%.100x) is %v", s, err)
		}
	}
	for at := range 4 {
		for _, x := range []item{n(0), n(1), text(""), text("a"), list(), list(n(1)), list(text("a"))} {
			reads(tc, row(with(aState(), at, x)...))
			readsFixed(tc, row(with(aChannel(), at, x)...))
		}
	}
	reads(tc, row(aState()[:3]...))
	reads(tc, row(append(aState(), n(0))...))
	readsFixed(tc, row(aChannel()[:3]...))
	readsFixed(tc, row(append(aChannel(), n(0))...))
}

// P10.3: whatever is changed, cut off or put in, what is told is what the bytes are.
func TestReadChanged(tc *testing.T) {
	base, _ := changedVars()
	seed := uint64(3)
	for _, s := range []string{Write(base), Write(madeVars()[1]), Write(api.Var{}), WriteFixed(madeFixed()[0]), WriteFixed(madeFixed()[1])} {
		for i := range len(s) {
			for bit := range 8 {
				changed := []byte(s)
				changed[i] ^= 1 << bit
				reads(tc, string(changed))
				readsFixed(tc, string(changed))
			}
			for _, other := range []string{s[:i], s[i:], s[:i] + "\x00" + s[i:], s[:i] + s[i+1:], s[:i] + n(uint64(below(&seed, 300))).word + s[min(len(s), i+32):], s[:i] + s} {
				reads(tc, other)
				readsFixed(tc, other)
			}
			if i%32 == 0 {
				reads(tc, s[:i]+n(0).word+s[i:])
				reads(tc, s[:i]+s[i+32:])
				readsFixed(tc, s[:i]+n(0).word+s[i:])
				readsFixed(tc, s[:i]+s[i+32:])
			}
			if _, err := Read(s[:i]); err != api.ErrForm {
				tc.Fatalf("Read of what is cut at %d is %v", i, err)
			}
			if _, err := ReadFixed(s[:i]); err != api.ErrForm {
				tc.Fatalf("ReadFixed of what is cut at %d is %v", i, err)
			}
		}
		for _, more := range []string{"\x00", n(0).word, s} {
			wantVar(tc, s+more, api.ErrForm)
			if _, err := readsFixed(tc, s+more); err != api.ErrForm {
				tc.Errorf("ReadFixed with more behind is %v", err)
			}
		}
	}
}

// 0.5: arguments stay, and answers share nothing.
func TestStays(tc *testing.T) {
	base, _ := changedVars()
	f := madeFixed()[2]
	before, beforeFixed := fmt.Sprintf("%#v", base), fmt.Sprintf("%#v", f)
	s, sFixed := Write(base), WriteFixed(f)
	FitVar(base)
	FitFixed(f)
	Id(f)
	Digest(f, base)
	Total(base.Exits, who(1))
	Same(base, base)
	if fmt.Sprintf("%#v", base) != before || fmt.Sprintf("%#v", f) != beforeFixed {
		tc.Fatal("an argument was changed")
	}
	first, _ := Read(s)
	second, _ := Read(s)
	firstFixed, _ := ReadFixed(sFixed)
	secondFixed, _ := ReadFixed(sFixed)
	first.Exits[0].Allocs[1].Amount = all
	first.Exits[0].Allocs = append(first.Exits[0].Allocs[:1], plain(api.U{9}))
	first.Exits[2].Allocs[0].Dest = ""
	first.Exits = append(first.Exits[:1], api.Exit{})
	firstFixed.Parts[0] = ""
	firstFixed.Parts = append(firstFixed.Parts[:1], "x")
	if fmt.Sprintf("%#v", second) != before || fmt.Sprintf("%#v", secondFixed) != beforeFixed || Write(base) != s || WriteFixed(f) != sFixed {
		tc.Error("an answer's change is seen elsewhere")
	}
	// Lists of one answer share none, either.
	third, _ := Read(s)
	for i := range third.Exits {
		third.Exits[i].Allocs = append(third.Exits[i].Allocs, plain(api.U{9}))
	}
	for i := range third.Exits {
		third.Exits[i].Allocs = third.Exits[i].Allocs[:len(third.Exits[i].Allocs)-1]
	}
	if !Same(third, base) {
		tc.Error("two lists of an answer share memory")
	}
}

// 0.7: an empty list is none, in what is asked and in what is told.
func TestEmptyIsNone(tc *testing.T) {
	empty := api.Var{Exits: []api.Exit{}}
	if !FitVar(empty) || Write(empty) != Write(api.Var{}) {
		tc.Error("a state with an empty list")
	}
	inner := exits(api.Exit{Asset: who(1), Allocs: []api.Alloc{}})
	if !FitVar(inner) || Write(inner) != Write(exits(exit(who(1)))) {
		tc.Error("an exit with an empty list")
	}
	if got, err := Read(Write(empty)); err != api.OK || got.Exits != nil {
		tc.Errorf("Read is %#v, %v", got, err)
	}
	if got, err := Read(Write(inner)); err != api.OK || len(got.Exits) != 1 || got.Exits[0].Allocs != nil {
		tc.Errorf("Read is %#v, %v", got, err)
	}
}

// 0.1: calls end, and none panics, far outside of what is asked.
func TestFarOutside(tc *testing.T) {
	const many = 1 << 18
	long := rep(1, 1<<20)
	var parts []string
	var l []api.Exit
	var allocs []api.Alloc
	for range many {
		parts = append(parts, who(1))
		l = append(l, exit(who(1), plain(api.U{1})))
		allocs = append(allocs, plain(api.U{1}))
	}
	for _, f := range []api.Fixed{{Parts: parts, Time: 1}, {Parts: []string{long, long}, Time: 1}, {Parts: []string{who(1), who(2)}, App: long, Time: 1}} {
		holdFixed(tc, f, false)
	}
	for _, v := range []api.Var{{Exits: l}, {Data: long}, exits(exit(who(1), allocs...)), exits(exit(long)), exits(exit(who(1), api.Alloc{Dest: long})), exits(exit(who(1), api.Alloc{Dest: dest(1), Kind: 1, Left: long, Right: long}))} {
		holdVar(tc, v, false)
		if !Same(v, v) || Same(v, api.Var{}) {
			tc.Error("Same of what is far outside")
		}
	}
	for _, m := range [][]api.Exit{l, {exit(who(1), allocs...)}} {
		if got, ok := Total(m, who(1)); got != (api.U{many}) || !ok {
			tc.Errorf("Total is %v, %v", got, ok)
		}
	}
	if Dest(long) != "" {
		tc.Error("Dest of a long text")
	}
	wantVar(tc, long, api.ErrForm)
	readsFixed(tc, long)
}
