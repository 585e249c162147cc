package state

import (
	"fmt"
	"math"
	"math/big"
	"strings"
	"testing"

	"truce/api"
	"truce/hash"
	"truce/word"
)

const top = 1<<64 - 1

var all = api.U{top, top, top, top}

// mix is a fixed row of numbers that look mixed: the tests must go alike each time.
func mix(seed *uint64) uint64 {
	*seed += 0x9e3779b97f4a7c15
	z := *seed
	z = (z ^ z>>30) * 0xbf58476d1ce4e5b9
	z = (z ^ z>>27) * 0x94d049bb133111eb
	return z ^ z>>31
}

func below(seed *uint64, n int) int { return int(mix(seed) % uint64(n)) }

func rep(b byte, n int) string { return strings.Repeat(string([]byte{b}), n) }
func who(b byte) string        { return rep(b, 20) }
func dest(b byte) string       { return rep(b, 32) }

func plain(amount api.U) api.Alloc { return api.Alloc{Dest: dest(1), Amount: amount} }
func bound(amount api.U) api.Alloc {
	return api.Alloc{Dest: dest(1), Amount: amount, Kind: api.PayBound, Left: dest(2), Right: dest(3)}
}
func exit(asset string, l ...api.Alloc) api.Exit { return api.Exit{Asset: asset, Allocs: l} }
func exits(l ...api.Exit) api.Var                { return api.Var{Exits: l} }

func big2(n uint) *big.Int { return new(big.Int).Lsh(big.NewInt(1), n) }

func bigOf(u api.U) *big.Int {
	b := new(big.Int)
	for i := range 4 {
		b.Or(b, new(big.Int).Lsh(new(big.Int).SetUint64(u[i]), uint(64*i)))
	}
	return b
}

func ofBig(b *big.Int) api.U {
	var u api.U
	for i := range 4 {
		u[i] = new(big.Int).And(new(big.Int).Rsh(b, uint(64*i)), new(big.Int).SetUint64(top)).Uint64()
	}
	return u
}

// isFixed is the chapter's fit channel, in its words' order.
func isFixed(f api.Fixed) bool {
	met := map[string]bool{}
	for _, p := range f.Parts {
		if len(p) != 20 {
			return false
		}
		met[p] = true
	}
	return len(f.Parts) >= 2 && len(f.Parts) <= 4 && len(met) == len(f.Parts) && len(f.App) <= 512 && f.Time >= 1 && f.Time <= 1048576
}

// isVar is the chapter's fit state, in its words' order.
func isVar(v api.Var) bool {
	ok := v.Turn <= 1099511627776 && len(v.Data) <= 256 && len(v.Exits) <= 3
	for i, e := range v.Exits {
		ok = ok && len(e.Asset) == 20 && (i == 0 || strings.Compare(v.Exits[i-1].Asset, e.Asset) < 0) && len(e.Allocs) <= 8
		sum := new(big.Int)
		for _, a := range e.Allocs {
			isPlain := a.Kind == 0 && a.Left == "" && a.Right == ""
			isBound := a.Kind == 1 && len(a.Left) == 32 && len(a.Right) == 32
			ok = ok && (isPlain || isBound) && len(a.Dest) == 32
			sum.Add(sum, bigOf(a.Amount))
		}
		ok = ok && sum.Cmp(big2(256)) < 0
	}
	return ok
}

// item is a term as bytes: its word, or its tail.
type item struct{ word, tail string }

func wordOf(b *big.Int) string { return string(b.FillBytes(make([]byte, 32))) }
func n(u uint64) item          { return item{word: wordOf(new(big.Int).SetUint64(u))} }
func raw(s string) item        { return item{word: wordOf(new(big.Int).SetBytes([]byte(s)))} }
func text(s string) item       { return item{tail: n(uint64(len(s))).word + s + rep(0, (32-len(s)%32)%32)} }
func list(l ...item) item      { return item{tail: n(uint64(len(l))).word + row(l...)} }

func each[T any](l []T, one func(T) item) (out []item) {
	for _, x := range l {
		out = append(out, one(x))
	}
	return out
}

// row is items as bytes: all words, then all tails.
func row(l ...item) string {
	words, tails := "", ""
	for _, x := range l {
		if x.tail == "" {
			words += x.word
			continue
		}
		words += n(uint64(32*len(l) + len(tails))).word
		tails += x.tail
	}
	return words + tails
}

// fixedBytes is a channel as bytes, by the chapter's words.
func fixedBytes(f api.Fixed) string {
	return row(list(each(f.Parts, raw)...), n(f.Nonce), text(f.App), n(uint64(f.Time)))
}

// varBytes is a state as bytes, by the chapter's words. It writes what is not fit, too.
func varBytes(v api.Var) string {
	final := uint64(0)
	if v.Final {
		final = 1
	}
	return row(n(v.Turn), n(final), text(v.Data), list(each(v.Exits, func(e api.Exit) item {
		return list(raw(e.Asset), list(each(e.Allocs, func(a api.Alloc) item {
			return list(raw(a.Dest), item{word: wordOf(bigOf(a.Amount))}, n(uint64(a.Kind)), raw(a.Left), raw(a.Right))
		})...))
	})...))
}

// bits is a term's number, if it has at most so many bits.
func bits(t api.Term, n int) (*big.Int, bool) {
	b := bigOf(t.Num)
	return b, b.BitLen() <= n
}

// isVarBytes tells whether bytes are a fit state's: each number is asked for its bounds.
func isVarBytes(s string) bool {
	l, err := word.Decode("nnt[(n[(nnnnn)])]", s)
	if err != api.OK {
		return false
	}
	turn, ok := bits(l[0], 64)
	final, okFinal := bits(l[1], 1)
	v := api.Var{Turn: turn.Uint64(), Final: final.Sign() > 0, Data: l[2].Text}
	ok = ok && okFinal
	for _, e := range l[3].List {
		asset, okAsset := bits(e.List[0], 160)
		ok = ok && okAsset
		if !ok {
			return false
		}
		x := api.Exit{Asset: string(asset.FillBytes(make([]byte, 20)))}
		for _, a := range e.List[1].List {
			kind, okKind := bits(a.List[2], 1)
			left, right := bigOf(a.List[3].Num), bigOf(a.List[4].Num)
			ok = ok && okKind && (kind.Sign() > 0 || left.Sign() == 0 && right.Sign() == 0)
			y := plain(a.List[1].Num)
			if kind.Sign() > 0 {
				y = bound(a.List[1].Num)
			}
			x.Allocs = append(x.Allocs, y)
		}
		v.Exits = append(v.Exits, x)
	}
	return ok && isVar(v)
}

// isFixedBytes tells whether bytes are a fit channel's, likewise.
func isFixedBytes(s string) bool {
	l, err := word.Decode("[n]ntn", s)
	if err != api.OK {
		return false
	}
	_, okNonce := bits(l[1], 64)
	time, ok := bits(l[3], 30)
	ok = ok && okNonce
	f := api.Fixed{App: l[2].Text}
	for _, p := range l[0].List {
		b, okPart := bits(p, 160)
		ok = ok && okPart
		if !ok {
			return false
		}
		f.Parts = append(f.Parts, string(b.FillBytes(make([]byte, 20))))
	}
	if !ok {
		return false
	}
	f.Time = int(time.Int64())
	return isFixed(f)
}

// reads asks Read of bytes, and holds its answer against them.
func reads(tc *testing.T, s string) (api.Var, api.Errno) {
	tc.Helper()
	v, err := Read(s)
	if (err == api.OK) != isVarBytes(s) {
		tc.Fatalf("Read(%x) is %v", s, err)
	}
	if err == api.OK && (!isVar(v) || varBytes(v) != s) {
		tc.Fatalf("Read(%x) is %v", s, v)
	}
	if err != api.OK && (err != api.ErrForm || fmt.Sprintf("%#v", v) != fmt.Sprintf("%#v", api.Var{})) {
		tc.Fatalf("Read(%x) is %v, %v", s, v, err)
	}
	return v, err
}

// readsFixed asks ReadFixed likewise.
func readsFixed(tc *testing.T, s string) (api.Fixed, api.Errno) {
	tc.Helper()
	f, err := ReadFixed(s)
	if (err == api.OK) != isFixedBytes(s) {
		tc.Fatalf("ReadFixed(%x) is %v", s, err)
	}
	if err == api.OK && (!isFixed(f) || fixedBytes(f) != s) {
		tc.Fatalf("ReadFixed(%x) is %v", s, f)
	}
	if err != api.OK && (err != api.ErrForm || fmt.Sprintf("%#v", f) != fmt.Sprintf("%#v", api.Fixed{})) {
		tc.Fatalf("ReadFixed(%x) is %v, %v", s, f, err)
	}
	return f, err
}

// holdVar holds all that is asked of a state alone.
func holdVar(tc *testing.T, v api.Var, fit bool) {
	tc.Helper()
	f := madeFixed()[0]
	if isVar(v) != fit {
		tc.Fatalf("the test has %.300v wrong", v)
	}
	if FitVar(v) != fit {
		tc.Fatalf("FitVar(%.300v) is %v", v, !fit)
	}
	s, d := Write(v), Digest(f, v)
	if !fit {
		if s != "" || d != "" {
			tc.Fatalf("Write and Digest of %.300v are %x, %x", v, s, d)
		}
		return
	}
	if s != varBytes(v) || d != hash.Sum(Id(f)+hash.Sum(s)) || len(d) != 32 {
		tc.Fatalf("Write and Digest of %.300v are %x, %x", v, s, d)
	}
	got, err := reads(tc, s)
	if err != api.OK || !Same(got, v) || fmt.Sprintf("%v", got) != fmt.Sprintf("%v", v) {
		tc.Fatalf("Read(Write(%.300v)) is %.300v, %v", v, got, err)
	}
	for _, e := range v.Exits {
		if sum, ok := Total(v.Exits, e.Asset); !ok || bigOf(sum).Cmp(sumOf(v.Exits, e.Asset)) != 0 {
			tc.Fatalf("Total(%.300v, %x) is %v, %v", v, e.Asset, sum, ok)
		}
	}
}

// holdFixed holds all that is asked of a channel alone.
func holdFixed(tc *testing.T, f api.Fixed, fit bool) {
	tc.Helper()
	if isFixed(f) != fit {
		tc.Fatalf("the test has %.300v wrong", f)
	}
	if FitFixed(f) != fit {
		tc.Fatalf("FitFixed(%.300v) is %v", f, !fit)
	}
	s, id, d := WriteFixed(f), Id(f), Digest(f, madeVars()[1])
	if !fit {
		if s != "" || id != "" || d != "" {
			tc.Fatalf("WriteFixed, Id and Digest of %.300v are %x, %x, %x", f, s, id, d)
		}
		return
	}
	if s != fixedBytes(f) || id != hash.Sum(s) || len(id) != 32 || d != hash.Sum(id+hash.Sum(varBytes(madeVars()[1]))) {
		tc.Fatalf("WriteFixed, Id and Digest of %.300v are %x, %x, %x", f, s, id, d)
	}
	got, err := readsFixed(tc, s)
	if err != api.OK || fmt.Sprintf("%#v", got) != fmt.Sprintf("%#v", f) {
		tc.Fatalf("ReadFixed(WriteFixed(%.300v)) is %.300v, %v", f, got, err)
	}
}

func sumOf(l []api.Exit, asset string) *big.Int {
	sum := new(big.Int)
	for _, e := range l {
		for _, a := range e.Allocs {
			if e.Asset == asset {
				sum.Add(sum, bigOf(a.Amount))
			}
		}
	}
	return sum
}

// The chapter's example.
func TestExample(tc *testing.T) {
	v := api.Var{Turn: 3, Exits: []api.Exit{exit(who(0), plain(api.U{5}))}}
	if sum, ok := Total(v.Exits, who(0)); sum != (api.U{5}) || !ok {
		tc.Errorf("Total is %v, %v", sum, ok)
	}
	if got, err := Read(Write(v)); err != api.OK || !Same(got, v) {
		tc.Errorf("Read of Write is %v, %v", got, err)
	}
	if got := Digest(madeFixed()[0], v); len(got) != 32 {
		tc.Errorf("Digest is %x", got)
	}
}

// P10.1: how many participants, how long they are, and none twice.
func TestParts(tc *testing.T) {
	for many := range 7 {
		f := api.Fixed{Time: 1}
		for i := range many {
			f.Parts = append(f.Parts, who(byte(9-i)))
		}
		holdFixed(tc, f, many >= 2 && many <= 4)
		for at := range f.Parts {
			for _, long := range []int{0, 1, 19, 20, 21, 32, 400} {
				g := f
				g.Parts = append([]string{}, f.Parts...)
				g.Parts[at] = rep(77, long)
				holdFixed(tc, g, long == 20 && many >= 2 && many <= 4)
			}
			for other := range at {
				g := f
				g.Parts = append([]string{}, f.Parts...)
				g.Parts[at] = g.Parts[other]
				holdFixed(tc, g, false)
			}
		}
	}
	// Addresses that are alike but for one byte are not the same; nor is their order asked for.
	for at := range 20 {
		one := []byte(who(0))
		one[at] = 1
		holdFixed(tc, api.Fixed{Parts: []string{who(0), string(one)}, Time: 1}, true)
		holdFixed(tc, api.Fixed{Parts: []string{string(one), who(0)}, Time: 1}, true)
	}
}

// P10.1: a channel's other bounds, one by one.
func TestFixedBounds(tc *testing.T) {
	base := api.Fixed{Parts: []string{who(1), who(2)}, Time: 1}
	for _, long := range []int{0, 1, 31, 32, 33, 511, 512, 513, 514, 16384, 16385, 100000} {
		f := base
		f.App = rep(0, long)
		holdFixed(tc, f, long <= 512)
	}
	for _, time := range []int{math.MinInt, -1 << 32, -1, 0, 1, 2, 1<<20 - 1, 1 << 20, 1<<20 + 1, 1 << 32, 1<<32 + 1, math.MaxInt} {
		f := base
		f.Time = time
		holdFixed(tc, f, time >= 1 && time <= 1<<20)
	}
	for _, nonce := range []uint64{0, 1, 1 << 40, 1<<40 + 1, 1 << 63, top} {
		f := base
		f.Nonce = nonce
		holdFixed(tc, f, true)
	}
	holdFixed(tc, api.Fixed{}, false)
	for _, f := range madeFixed() {
		holdFixed(tc, f, true)
	}
}

// P10.1: a state's bounds, one by one.
func TestVarBounds(tc *testing.T) {
	for _, turn := range []uint64{0, 1, 1<<32 + 1, 1<<40 - 1, 1 << 40, 1<<40 + 1, 1 << 63, top} {
		for _, final := range []bool{false, true} {
			holdVar(tc, api.Var{Turn: turn, Final: final}, turn <= 1<<40)
		}
	}
	for _, long := range []int{0, 1, 31, 32, 33, 255, 256, 257, 258, 16384, 16385, 100000} {
		holdVar(tc, api.Var{Data: rep(0, long)}, long <= 256)
	}
	for many := range 6 {
		var v api.Var
		for i := range many {
			v.Exits = append(v.Exits, exit(who(byte(i)), plain(api.U{1})))
		}
		holdVar(tc, v, many <= 3)
	}
	for many := range 12 {
		var l []api.Alloc
		for range many {
			l = append(l, plain(api.U{1}))
		}
		holdVar(tc, exits(exit(who(0), l...)), many <= 8)
		holdVar(tc, exits(exit(who(0), plain(api.U{1})), exit(who(1), l...)), many <= 8)
		holdVar(tc, exits(exit(who(0), l...), exit(who(1), l...), exit(who(2), l...)), many <= 8)
	}
	for _, v := range madeVars() {
		holdVar(tc, v, true)
	}
}

// P10.1: assets have 20 bytes, and rise, byte by byte.
func TestAssets(tc *testing.T) {
	for _, long := range []int{0, 1, 19, 20, 21, 32, 400} {
		holdVar(tc, exits(exit(rep(5, long))), long == 20)
		holdVar(tc, exits(exit(who(0)), exit(rep(5, long))), long == 20)
		holdVar(tc, exits(exit(rep(5, long)), exit(who(9))), long == 20)
	}
	marks := []byte{0, 1, 127, 128, 254, 255}
	for _, a := range marks {
		for _, b := range marks {
			holdVar(tc, exits(exit(who(a)), exit(who(b))), a < b)
			for _, at := range []int{0, 1, 7, 8, 19} {
				one, two := []byte(who(60)), []byte(who(60))
				one[at], two[at] = a, b
				holdVar(tc, exits(exit(string(one)), exit(string(two))), a < b)
			}
			for _, c := range marks {
				holdVar(tc, exits(exit(who(a)), exit(who(b)), exit(who(c))), a < b && b < c)
			}
		}
	}
	// The first byte in which they differ decides.
	holdVar(tc, exits(exit("\x00"+rep(255, 19)), exit("\x01"+rep(0, 19))), true)
	holdVar(tc, exits(exit("\x01"+rep(0, 19)), exit("\x00"+rep(255, 19))), false)
}

// P10.1: what each kind of allocations needs.
func TestAllocs(tc *testing.T) {
	longs := []int{0, 1, 20, 31, 32, 33, 64}
	for _, kind := range []int{math.MinInt, -1, 0, 1, 2, 3, 255, 256, 257, 1 << 32, 1<<32 + 1, math.MaxInt} {
		for _, left := range longs {
			for _, right := range longs {
				a := api.Alloc{Dest: dest(1), Amount: api.U{5}, Kind: kind, Left: rep(2, left), Right: rep(3, right)}
				fit := kind == 0 && left == 0 && right == 0 || kind == 1 && left == 32 && right == 32
				holdVar(tc, exits(exit(who(0), a)), fit)
				holdVar(tc, exits(exit(who(0), plain(api.U{1})), exit(who(1), bound(api.U{1}), a)), fit)
			}
		}
	}
	for _, long := range longs {
		for _, a := range []api.Alloc{plain(api.U{1}), bound(api.U{1})} {
			a.Dest = rep(0, long)
			holdVar(tc, exits(exit(who(0), a)), long == 32)
		}
	}
	// Sides, and a destination, of bytes 0 are there, though their numbers are those of empty ones.
	zero := api.Alloc{Dest: dest(0), Kind: api.PayBound, Left: dest(0), Right: dest(0)}
	holdVar(tc, exits(exit(who(0), zero, zero)), true)
}

// P10.1: an exit's amounts together are below 2^256; those of several exits need not be.
func TestAmounts(tc *testing.T) {
	half := api.U{0, 0, 0, 1 << 63}
	for i, c := range []struct {
		l   []api.U
		fit bool
	}{
		{[]api.U{{}}, true}, {[]api.U{all}, true}, {[]api.U{all, {}}, true}, {[]api.U{{}, all}, true},
		{[]api.U{all, {1}}, false}, {[]api.U{{1}, all}, false}, {[]api.U{all, all}, false}, {[]api.U{all, {1}, all}, false}, {[]api.U{all, {1}, {}}, false}, {[]api.U{all, {1}, {5}}, false},
		{[]api.U{half, half}, false}, {[]api.U{half, half, half}, false}, {[]api.U{half, half, half, half}, false}, {[]api.U{half, {top, top, top, 1<<63 - 1}}, true}, {[]api.U{half, {top, top, top, 1<<63 - 1}, {1}}, false},
		{[]api.U{{top}, {1}}, true}, {[]api.U{{top, top}, {1}}, true}, {[]api.U{{0, 0, 0, top}, {top, top, top}}, true}, {[]api.U{{0, 0, 0, top}, {0, 0, 0, 1}}, false},
		{[]api.U{{}, {}, {}, {}, {}, {}, {1}, all}, false}, {[]api.U{{}, {}, {}, {}, {}, {}, {}, all}, true},
	} {
		var l []api.Alloc
		for k, u := range c.l {
			l = append(l, []api.Alloc{plain(u), bound(u)}[(k+i)%2])
		}
		holdVar(tc, exits(exit(who(0), l...)), c.fit)
		holdVar(tc, exits(exit(who(0), plain(all)), exit(who(1), l...), exit(who(2), plain(all))), c.fit)
	}
}

// mixedU is a number of mixed length.
func mixedU(seed *uint64) api.U {
	var u api.U
	for i := range below(seed, 5) {
		u[i] = mix(seed)
	}
	u[3] >>= 4
	return u
}

func mixedText(seed *uint64, long int) string {
	out := make([]byte, long)
	for i := range out {
		// Few unlike bytes, so that texts are often the same, or alike.
		out[i] = "\x00\x00\xff\x01"[below(seed, 4)]
	}
	return string(out)
}

// mixedVar is a fit state.
func mixedVar(seed *uint64) api.Var {
	v := api.Var{Turn: mix(seed) % (1<<40 + 1) >> below(seed, 41), Final: below(seed, 2) == 1, Data: mixedText(seed, []int{0, 1, 32, 33, 256}[below(seed, 5)])}
	asset := byte(below(seed, 100))
	for range below(seed, 4) {
		e := api.Exit{Asset: string([]byte{asset}) + mixedText(seed, 19)}
		asset += 1 + byte(below(seed, 50))
		for range below(seed, 9) {
			a := api.Alloc{Dest: mixedText(seed, 32), Amount: mixedU(seed)}
			if below(seed, 2) == 1 {
				a.Kind, a.Left, a.Right = 1, mixedText(seed, 32), mixedText(seed, 32)
			}
			e.Allocs = append(e.Allocs, a)
		}
		v.Exits = append(v.Exits, e)
	}
	return v
}

// mixedFixed is a fit channel.
func mixedFixed(seed *uint64) api.Fixed {
	f := api.Fixed{Nonce: mix(seed) >> below(seed, 64), App: mixedText(seed, []int{0, 1, 32, 33, 512}[below(seed, 5)]), Time: 1 + below(seed, 1<<20)}
	for i := range 2 + below(seed, 3) {
		f.Parts = append(f.Parts, string([]byte{byte(i)})+mixedText(seed, 19))
	}
	return f
}

// P10.2, P10.3, P10.5, P10.6: mixed ones there and back; unlike ones have unlike bytes, ids and digests.
func TestThereAndBack(tc *testing.T) {
	seed := uint64(1)
	vars, fixeds, met := map[string]string{}, map[string]string{}, map[string]bool{}
	for range 400 {
		v, f := mixedVar(&seed), mixedFixed(&seed)
		holdVar(tc, v, true)
		holdFixed(tc, f, true)
		told, toldFixed := fmt.Sprintf("%#v", v), fmt.Sprintf("%#v", f)
		if before, there := vars[Write(v)]; there && before != told {
			tc.Fatalf("%v and %v have the same bytes", before, told)
		}
		if before, there := fixeds[WriteFixed(f)]; there && before != toldFixed {
			tc.Fatalf("%v and %v have the same bytes", before, toldFixed)
		}
		vars[Write(v)], fixeds[WriteFixed(f)] = told, toldFixed
		for _, d := range []string{Id(f), Digest(f, v), Digest(f, api.Var{}), Digest(madeFixed()[0], v)} {
			if len(d) != 32 {
				tc.Fatalf("%x has not 32 bytes", d)
			}
			met[d] = true
		}
	}
	if len(met) < 1500 {
		tc.Errorf("only %d unlike ids and digests", len(met))
	}
}

// changedVars has a state and states that are unlike it in one thing alone.
func changedVars() (api.Var, []api.Var) {
	base := func() api.Var {
		return api.Var{Turn: 9, Data: "ab", Exits: []api.Exit{exit(who(1), plain(api.U{5}), bound(api.U{6})), exit(who(2)), exit(who(3), bound(api.U{7}))}}
	}
	var out []api.Var
	for _, change := range []func(v *api.Var){
		func(v *api.Var) { v.Turn = 10 },
		func(v *api.Var) { v.Turn = 9 + 1<<32 },
		func(v *api.Var) { v.Final = true },
		func(v *api.Var) { v.Data = "" },
		func(v *api.Var) { v.Data = "ab\x00" },
		func(v *api.Var) { v.Data = "aB" },
		func(v *api.Var) { v.Exits = nil },
		func(v *api.Var) { v.Exits = v.Exits[:2] },
		func(v *api.Var) { v.Exits = v.Exits[1:] },
		func(v *api.Var) { v.Exits[0].Asset = who(0) },
		func(v *api.Var) { v.Exits[2].Asset = who(9) },
		func(v *api.Var) { v.Exits[1].Allocs = v.Exits[2].Allocs },
		func(v *api.Var) { v.Exits[0].Allocs = v.Exits[0].Allocs[:1] },
		func(v *api.Var) { v.Exits[0].Allocs = v.Exits[0].Allocs[1:] },
		func(v *api.Var) { l := v.Exits[0].Allocs; l[0], l[1] = l[1], l[0] },
		func(v *api.Var) { v.Exits[0].Allocs[0].Dest = dest(9) },
		func(v *api.Var) { v.Exits[0].Allocs[0].Amount = api.U{5, 1} },
		func(v *api.Var) { v.Exits[0].Allocs[0].Amount = api.U{5, 0, 0, 1} },
		func(v *api.Var) { v.Exits[0].Allocs[1].Amount = api.U{7} },
		func(v *api.Var) { v.Exits[0].Allocs[1].Left = dest(9) },
		func(v *api.Var) { v.Exits[0].Allocs[1].Right = dest(9) },
		func(v *api.Var) { v.Exits[0].Allocs[1] = plain(api.U{6}) },
		func(v *api.Var) { v.Exits[2].Allocs[0].Dest = dest(0) },
		func(v *api.Var) { v.Exits[2].Allocs[0].Left = dest(0) },
	} {
		v := base()
		change(&v)
		out = append(out, v)
	}
	return base(), out
}

// P10.1, P10.5: Same asks each field; unlike states have unlike bytes and digests.
func TestSame(tc *testing.T) {
	base, l := changedVars()
	other, _ := changedVars()
	if !Same(base, other) {
		tc.Error("Same of the same")
	}
	f := madeFixed()[1]
	bytes, digests := map[string]bool{}, map[string]bool{}
	for i, v := range append(l, base) {
		holdVar(tc, v, true)
		bytes[Write(v)], digests[Digest(f, v)] = true, true
		for k, u := range append(l, base) {
			if Same(v, u) != (i == k) {
				tc.Errorf("Same of %d and %d is %v", i, k, i != k)
			}
		}
	}
	if len(bytes) != len(l)+1 || len(digests) != len(l)+1 {
		tc.Errorf("%d states have %d rows of bytes, %d digests", len(l)+1, len(bytes), len(digests))
	}
}

// P10.1: Same of what is not fit; 0.7: an empty list is none.
func TestSameAny(tc *testing.T) {
	if !Same(api.Var{Exits: []api.Exit{}}, api.Var{}) || !Same(exits(api.Exit{Allocs: []api.Alloc{}}), exits(api.Exit{})) {
		tc.Error("an empty list is none")
	}
	odd := []api.Var{
		{}, {Turn: top}, {Data: rep(0, 300)}, {Data: rep(0, 301)}, exits(api.Exit{}), exits(api.Exit{}, api.Exit{}), exits(exit("a")), exits(exit("", api.Alloc{})), exits(exit("", api.Alloc{}, api.Alloc{})),
		exits(exit("", api.Alloc{Dest: "x"})), exits(exit("", api.Alloc{Left: "x"})), exits(exit("", api.Alloc{Right: "x"})), exits(exit("", api.Alloc{Kind: 1})), exits(exit("", api.Alloc{Kind: -1})),
		exits(exit("", api.Alloc{Left: dest(0)})), exits(exit("", api.Alloc{Amount: all})),
	}
	for i, a := range odd {
		for k, b := range odd {
			if Same(a, b) != (i == k) {
				tc.Errorf("Same(%v, %v) is %v", a, b, i != k)
			}
		}
	}
}

// P10.5: channels that are unlike in one thing alone have unlike bytes, ids and digests.
func TestFixedUnlike(tc *testing.T) {
	l := []api.Fixed{
		{Parts: []string{who(1), who(2)}, Time: 5}, {Parts: []string{who(2), who(1)}, Time: 5}, {Parts: []string{who(1), who(3)}, Time: 5}, {Parts: []string{who(1), who(2), who(3)}, Time: 5},
		{Parts: []string{who(1), who(2)}, Time: 6}, {Parts: []string{who(1), who(2)}, Time: 5, Nonce: 1}, {Parts: []string{who(1), who(2)}, Time: 5, Nonce: 1 << 63}, {Parts: []string{who(1), who(2)}, Time: 5, App: "\x00"},
		{Parts: []string{who(1), who(2)}, Time: 5, App: "\x00\x00"}, {Parts: []string{who(1), who(2)}, Time: 5, App: rep(0, 32)}, {Parts: []string{who(1), who(2)}, Time: 5, App: "\x01"},
	}
	bytes, ids, digests := map[string]bool{}, map[string]bool{}, map[string]bool{}
	for _, f := range l {
		holdFixed(tc, f, true)
		bytes[WriteFixed(f)], ids[Id(f)], digests[Digest(f, api.Var{})] = true, true, true
	}
	if len(bytes) != len(l) || len(ids) != len(l) || len(digests) != len(l) {
		tc.Errorf("%d channels have %d rows of bytes, %d ids, %d digests", len(l), len(bytes), len(ids), len(digests))
	}
}

// P10.1: where an address's money goes.
func TestDest(tc *testing.T) {
	for long := range 70 {
		want := ""
		if long == 20 {
			want = rep(0, 12) + rep(7, 20)
		}
		if got := Dest(rep(7, long)); got != want {
			tc.Errorf("Dest of %d bytes is %x", long, got)
		}
	}
	if got := Dest("abcdefghijklmnopqrst"); got != "\x00\x00\x00\x00\x00\x00\x00\x00\x00\x00\x00\x00abcdefghijklmnopqrst" {
		tc.Errorf("Dest is %x", got)
	}
	if got := Dest(who(0)); got != dest(0) {
		tc.Errorf("Dest of bytes 0 is %x", got)
	}
}

// P10.2: a digest needs both.
func TestDigestNeedsBoth(tc *testing.T) {
	f, v := madeFixed()[0], madeVars()[1]
	badFixed, badVar := api.Fixed{Parts: []string{who(1)}, Time: 1}, api.Var{Turn: 1<<40 + 1}
	if Digest(f, v) == "" || Digest(badFixed, v) != "" || Digest(f, badVar) != "" || Digest(badFixed, badVar) != "" {
		tc.Error("Digest of what is not fit")
	}
}

// P10.4: all exits of the asset, whatever they are.
func TestTotal(tc *testing.T) {
	half := api.U{0, 0, 0, 1 << 63}
	odd := api.Alloc{Dest: "x", Amount: api.U{3}, Kind: -7, Left: "y"}
	for i, c := range []struct {
		l     []api.Exit
		asset string
		want  api.U
		ok    bool
	}{
		{nil, who(0), api.U{}, true}, {nil, "", api.U{}, true},
		{[]api.Exit{exit(who(0))}, who(0), api.U{}, true}, {[]api.Exit{exit(who(0), plain(api.U{5}))}, who(0), api.U{5}, true}, {[]api.Exit{exit(who(0), plain(api.U{5}))}, who(1), api.U{}, true},
		{[]api.Exit{exit(who(0), plain(api.U{5}), bound(api.U{6}))}, who(0), api.U{11}, true},
		{[]api.Exit{exit(who(0), plain(api.U{5})), exit(who(1), plain(api.U{6})), exit(who(0), plain(api.U{7}))}, who(0), api.U{12}, true},
		{[]api.Exit{exit(who(0), plain(api.U{5})), exit(who(1), plain(api.U{6})), exit(who(0), plain(api.U{7}))}, who(1), api.U{6}, true},
		{[]api.Exit{exit(who(0), odd, odd), exit("", odd), exit("", odd, plain(api.U{1}))}, "", api.U{7}, true},
		{[]api.Exit{exit(who(0), plain(api.U{5}))}, "", api.U{}, true}, {[]api.Exit{exit(who(0), plain(api.U{5}))}, rep(0, 19), api.U{}, true}, {[]api.Exit{exit(rep(0, 32), plain(api.U{5}))}, who(0), api.U{}, true},
		{[]api.Exit{exit(who(0), plain(all))}, who(0), all, true}, {[]api.Exit{exit(who(0), plain(all), plain(api.U{}))}, who(0), all, true}, {[]api.Exit{exit(who(0), plain(api.U{top}), plain(api.U{1}))}, who(0), api.U{0, 1}, true},
		{[]api.Exit{exit(who(0), plain(all), plain(api.U{1}))}, who(0), api.U{}, false}, {[]api.Exit{exit(who(0), plain(api.U{2})), exit(who(0), plain(all))}, who(0), api.U{}, false},
		{[]api.Exit{exit(who(0), plain(all), plain(api.U{1}), plain(api.U{5}))}, who(0), api.U{}, false}, {[]api.Exit{exit(who(0), plain(half), plain(half), plain(half))}, who(0), api.U{}, false},
		{[]api.Exit{exit(who(0), plain(all), plain(all)), exit(who(1), plain(api.U{5}))}, who(1), api.U{5}, true}, {[]api.Exit{exit(who(0), plain(all)), exit(who(1), plain(all))}, who(1), all, true},
	} {
		if got, ok := Total(c.l, c.asset); got != c.want || ok != c.ok {
			tc.Errorf("%d: Total is %v, %v", i, got, ok)
		}
	}
}

// P10.4: mixed exits against sums of the library.
func TestTotalMixed(tc *testing.T) {
	seed := uint64(2)
	met := [2]int{}
	for range 3000 {
		var l []api.Exit
		for range below(&seed, 6) {
			e := api.Exit{Asset: who(byte(below(&seed, 3)))}
			for range below(&seed, 12) {
				u := mixedU(&seed)
				u[3] <<= below(&seed, 5)
				e.Allocs = append(e.Allocs, plain(u))
			}
			l = append(l, e)
		}
		for b := range 4 {
			want := sumOf(l, who(byte(b)))
			fits := want.BitLen() <= 256
			if !fits {
				want = new(big.Int)
				met[0]++
			} else {
				met[1]++
			}
			if got, ok := Total(l, who(byte(b))); ok != fits || got != ofBig(want) {
				tc.Fatalf("Total(%v, %d) is %v, %v", l, b, got, ok)
			}
		}
	}
	if met[0] < 100 || met[1] < 100 {
		tc.Errorf("the sums were of few kinds: %v", met)
	}
}
