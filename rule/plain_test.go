package rule

import (
	"fmt"
	"math/big"
	"slices"
	"strings"
	"testing"

	"truce/api"
	"truce/codes"
)

const top = 1<<64 - 1

var all = api.U{top, top, top, top}

// mix is a fixed row of numbers that look mixed: the tests must go alike each time.
func mix(seed *uint64) uint64 {
	*seed += 0x9e3779b97f4a7c15
	z := *seed
	z = (z ^ z>>30) * 0xbf58476d1ce4e5b9
	z = (z ^ z>>27) * 0x94d049bb133111eb
	return z ^ z>>31
}

func below(seed *uint64, n int) int { return int(mix(seed) % uint64(n)) }

func rep(b byte, n int) string { return strings.Repeat(string([]byte{b}), n) }
func who(b byte) string        { return rep(b, 20) }
func dest(b byte) string       { return rep(b, 32) }

func plain(n uint64) api.Alloc { return api.Alloc{Dest: dest(1), Amount: api.U{n}} }
func bound(n uint64) api.Alloc {
	return api.Alloc{Dest: dest(1), Amount: api.U{n}, Kind: api.PayBound, Left: dest(2), Right: dest(3)}
}
func exit(asset byte, l ...api.Alloc) api.Exit { return api.Exit{Asset: who(asset), Allocs: l} }

// channel is a fit one of n participants.
func channel(n int, app string) api.Fixed {
	f := api.Fixed{Time: 9, App: app}
	for i := range n {
		f.Parts = append(f.Parts, who(byte(i)))
	}
	return f
}

// code is the bytes of an assembler's text.
func code(t testing.TB, text string) string {
	t.Helper()
	out, at, err := codes.Assemble(text)
	if err != api.OK {
		t.Fatalf("no code: %q at %d", text, at)
	}
	return out
}

// tells ends a code: the top number, as 32 bytes, is told.
const tells = " PUSH0 MSTORE PUSH1 20 PUSH0 RETURN"

// plainRule is a code, and what it asks, in plain words; nil: it allows nothing.
type plainRule struct {
	text   string
	allows func(n int, a, b api.Var) bool
}

func plainRules() []plainRule {
	return []plainRule{
		{"", nil},
		{"PUSH1 01" + tells, func(int, api.Var, api.Var) bool { return true }},
		{"PUSH1 02" + tells, nil},
		{"PUSH0" + tells, nil},
		{"PUSH1 01 PUSH0 MSTORE PUSH1 20 PUSH0 REVERT", nil},
		{"INVALID", nil},
		// The last word is whose turn it is.
		{"PUSH1 20 CALLDATASIZE SUB CALLDATALOAD PUSH1 01 EQ" + tells, func(n int, a, b api.Var) bool { return b.Turn%uint64(n) == 1 }},
		// The second state's first word, behind the first state, is its turn.
		{"PUSH0 CALLDATALOAD PUSH1 20 ADD CALLDATALOAD PUSH1 01 AND" + tells, func(n int, a, b api.Var) bool { return b.Turn%2 == 1 }},
		// The first state's third word is where its data is: how many bytes, and these.
		{"PUSH1 60 CALLDATALOAD PUSH1 20 ADD CALLDATALOAD PUSH1 02 EQ" + tells, func(n int, a, b api.Var) bool { return len(a.Data) == 2 }},
	}
}

// plainFit is the bounds of chapter 10.
func plainFit(v api.Var) bool {
	fit := v.Turn <= 1099511627776 && len(v.Data) <= 256 && len(v.Exits) <= 3
	for i, e := range v.Exits {
		fit = fit && len(e.Asset) == 20 && len(e.Allocs) <= 8 && (i == 0 || v.Exits[i-1].Asset < e.Asset)
		fit = fit && sumOf(v.Exits[i:i+1], e.Asset).BitLen() <= 256
		for _, a := range e.Allocs {
			isPlain := a.Kind == 0 && a.Left == "" && a.Right == ""
			isBound := a.Kind == 1 && len(a.Left) == 32 && len(a.Right) == 32
			fit = fit && len(a.Dest) == 32 && (isPlain || isBound)
		}
	}
	return fit
}

func plainFitChannel(f api.Fixed) bool {
	met := map[string]bool{}
	for _, p := range f.Parts {
		if len(p) != 20 || met[p] {
			return false
		}
		met[p] = true
	}
	return len(met) >= 2 && len(met) <= 4 && len(f.App) <= 512 && f.Time >= 1 && f.Time <= 1048576
}

// sumOf is how much exits have of an asset, in a number without bounds.
func sumOf(l []api.Exit, asset string) *big.Int {
	sum := new(big.Int)
	for _, e := range l {
		for _, a := range e.Allocs {
			if e.Asset == asset {
				for i := range 4 {
					sum.Add(sum, new(big.Int).Lsh(new(big.Int).SetUint64(a.Amount[i]), uint(64*i)))
				}
			}
		}
	}
	return sum
}

// exitsText is exits spelt out: unlike ones are unlike.
func exitsText(l []api.Exit) string {
	out := ""
	for _, e := range l {
		out += fmt.Sprintf("%x:", e.Asset)
		for _, a := range e.Allocs {
			out += fmt.Sprintf("%x %v %d %x %x,", a.Dest, a.Amount, a.Kind, a.Left, a.Right)
		}
		out += "\n"
	}
	return out
}

// sameTotals looks at all assets that are met.
func sameTotals(a, b api.Var) bool {
	for _, e := range append(slices.Clone(a.Exits), b.Exits...) {
		if sumOf(a.Exits, e.Asset).Cmp(sumOf(b.Exits, e.Asset)) != 0 {
			return false
		}
	}
	return true
}

// plainFollows is P14.3, in its words' order.
func plainFollows(f api.Fixed, r plainRule, a, b api.Var) api.Errno {
	if !plainFitChannel(f) || !plainFit(a) || !plainFit(b) {
		return api.ErrForm
	}
	if b.Turn-a.Turn != 1 {
		return api.ErrTurn
	}
	if a.Final && !b.Final {
		return api.ErrFinal
	}
	n := len(f.Parts)
	exits := exitsText(a.Exits) == exitsText(b.Exits)
	first := b.Turn < []uint64{0, 0, 4, 6, 8}[n]
	if first && (a.Data != b.Data || !exits || b.Final) {
		return api.ErrRule
	}
	if b.Final && !exits {
		return api.ErrRule
	}
	if b.Final || first {
		return api.OK
	}
	if !sameTotals(a, b) || r.allows == nil || !r.allows(n, a, b) {
		return api.ErrRule
	}
	return api.OK
}

// copied is a state in memory of its own.
func copied(v api.Var) api.Var {
	v.Exits = slices.Clone(v.Exits)
	for i, e := range v.Exits {
		v.Exits[i].Allocs = slices.Clone(e.Allocs)
	}
	return v
}

// mixedVar is a fit state, mostly small.
func mixedVar(seed *uint64) api.Var {
	v := api.Var{Turn: uint64(below(seed, 12)), Data: rep('d', below(seed, 4)), Final: below(seed, 5) == 0}
	for i := range below(seed, 4) {
		e := exit(byte(2*i + 1))
		for range below(seed, 4) {
			one := plain(uint64(below(seed, 3)))
			if below(seed, 3) == 0 {
				one = bound(uint64(below(seed, 3)))
			}
			e.Allocs = append(e.Allocs, one)
		}
		v.Exits = append(v.Exits, e)
	}
	return v
}

// shift moves money between two allocations: the totals stay, mostly.
func shift(seed *uint64, v *api.Var) {
	if len(v.Exits) == 0 {
		return
	}
	l := v.Exits[below(seed, len(v.Exits))].Allocs
	if len(l) < 2 {
		return
	}
	from, to := below(seed, len(l)), below(seed, len(l))
	if l[from].Amount[0] > 0 {
		l[from].Amount[0]--
		l[to].Amount[0]++
	}
}

// spoil changes one thing of an outcome.
func spoil(seed *uint64, v *api.Var) {
	if len(v.Exits) == 0 {
		v.Exits = []api.Exit{exit(byte(below(seed, 9)), plain(uint64(below(seed, 2))))}
		return
	}
	i := below(seed, len(v.Exits))
	e := &v.Exits[i]
	switch below(seed, 6) {
	case 0:
		v.Exits = slices.Delete(v.Exits, i, i+1)
	case 1:
		e.Asset = who(e.Asset[0] + 1)
	case 2:
		e.Allocs = append(e.Allocs, plain(uint64(below(seed, 2))))
	case 3:
		slices.Reverse(e.Allocs)
	case 4:
		if len(e.Allocs) > 0 {
			e.Allocs[0].Amount[below(seed, 4)]++
		}
	default:
		if len(e.Allocs) > 0 {
			e.Allocs[0].Dest = dest(8)
		}
	}
}

// mixedNext is a state that may follow another, or may not.
func mixedNext(seed *uint64, a api.Var) api.Var {
	b := copied(a)
	b.Turn++
	if below(seed, 10) == 0 {
		b.Turn += uint64(below(seed, 4)) - 2
	}
	if below(seed, 4) == 0 {
		b.Final = !b.Final
	}
	if below(seed, 4) == 0 {
		b.Data += "x"
	}
	switch below(seed, 5) {
	case 0, 1:
		shift(seed, &b)
	case 2:
		spoil(seed, &b)
	}
	if below(seed, 30) == 0 {
		b.Turn = api.MaxTurn + uint64(below(seed, 3))
	}
	return b
}

func show(v api.Var) string {
	return fmt.Sprintf("turn %d, final %v, data %q, exits %q", v.Turn, v.Final, v.Data, exitsText(v.Exits))
}
