package proof

import (
	"fmt"
	"math/big"
	"slices"
	"strings"
	"testing"

	"truce/api"
	"truce/codes"
	"truce/key"
	"truce/rule"
	"truce/seal"
	"truce/state"
)

const top = 1<<64 - 1

// mix is a fixed row of numbers that look mixed: the tests must go alike each time.
func mix(seed *uint64) uint64 {
	*seed += 0x9e3779b97f4a7c15
	z := *seed
	z = (z ^ z>>30) * 0xbf58476d1ce4e5b9
	z = (z ^ z>>27) * 0x94d049bb133111eb
	return z ^ z>>31
}

func below(seed *uint64, n int) int { return int(mix(seed) % uint64(n)) }

func rep(b byte, n int) string { return strings.Repeat(string([]byte{b}), n) }

// keyOf is the key of a channel's participant; stranger is who is none.
func keyOf(part int) api.U { return key.Small(uint64(10 + part)) }

const stranger = 90

func whoOf(t testing.TB, k api.U) string {
	t.Helper()
	who, err := key.Who(k)
	if err != api.OK {
		t.Fatalf("no key: %v", k)
	}
	return who
}

// channel is a fit one of n participants.
func channel(t testing.TB, n int, app string) api.Fixed {
	t.Helper()
	f := api.Fixed{Time: 9, Nonce: 3, App: app}
	for i := range n {
		f.Parts = append(f.Parts, whoOf(t, keyOf(i)))
	}
	return f
}

// Codes of rules.
const (
	yes = "PUSH1 01 PUSH0 MSTORE PUSH1 20 PUSH0 RETURN"
	no  = "PUSH0 PUSH0 MSTORE PUSH1 20 PUSH0 RETURN"
)

// code is the bytes of an assembler's text.
func code(t testing.TB, text string) string {
	t.Helper()
	out, at, err := codes.Assemble(text)
	if err != api.OK {
		t.Fatalf("no code: %q at %d", text, at)
	}
	return out
}

func plain(n uint64) api.Alloc { return api.Alloc{Dest: rep(1, 32), Amount: api.U{n}} }

func exits(amounts ...uint64) []api.Exit {
	e := api.Exit{Asset: rep(7, 20)}
	for _, n := range amounts {
		e.Allocs = append(e.Allocs, plain(n))
	}
	return []api.Exit{e}
}

// at is a state of a turn, with some money.
func at(turn uint64) api.Var { return api.Var{Turn: turn, Data: "d", Exits: exits(5, 6)} }

// sealOf is a participant's seal of a state.
func sealOf(t testing.TB, f api.Fixed, v api.Var, part int) api.Seal {
	t.Helper()
	s, err := seal.Make(state.Digest(f, v), keyOf(part))
	if err != api.OK {
		t.Fatalf("no seal: %d", err)
	}
	return s
}

// signed is a state with seals of participants, in that order.
func signed(t testing.TB, f api.Fixed, v api.Var, parts ...int) api.Signed {
	t.Helper()
	s := api.Signed{Var: v}
	for _, p := range parts {
		s.Seals = append(s.Seals, sealOf(t, f, v, p))
	}
	return s
}

// set has the participants whose bits are set.
func set(bits int) []int {
	var out []int
	for p := range 4 {
		if bits>>p&1 == 1 {
			out = append(out, p)
		}
	}
	return out
}

// signs is a row of states and, of each, all seals that there can be, so that a test of many rows makes each seal but once.
type signs struct {
	f     api.Fixed
	vars  []api.Var
	seals [][]api.Seal
}

func signsOf(t testing.TB, f api.Fixed, vars ...api.Var) signs {
	t.Helper()
	out := signs{f: f, vars: vars}
	for _, v := range vars {
		var l []api.Seal
		for p := range f.Parts {
			l = append(l, sealOf(t, f, v, p))
		}
		out.seals = append(out.seals, l)
	}
	return out
}

// row is the states, each with the seals of those whose bits are set.
func (s signs) row(bits ...int) []api.Signed {
	var out []api.Signed
	for i, b := range bits {
		one := api.Signed{Var: s.vars[i]}
		for _, p := range set(b) {
			one.Seals = append(one.Seals, s.seals[i][p])
		}
		out = append(out, one)
	}
	return out
}

// rowOf is n states that follow each other, from a turn on.
func rowOf(turn uint64, n int) []api.Var {
	var out []api.Var
	for i := range n {
		out = append(out, at(turn+uint64(i)))
	}
	return out
}

// plainProven is the last part of P15.3, in its words' order: bits has, of each state, who signed it.
func plainProven(n int, vars []api.Var, bits []int) bool {
	for p := range n {
		var asking []int
		last := -1
		for i, v := range vars {
			if new(big.Int).Mod(new(big.Int).SetUint64(v.Turn), big.NewInt(int64(n))).Int64() == int64(p) {
				last = i
			}
		}
		switch {
		case len(vars) == 1:
			asking = bits[:1]
		case last >= 0:
			asking = bits[last:]
		default:
			asking = bits
		}
		found := false
		for _, b := range asking {
			found = found || b&(1<<p) != 0
		}
		if !found {
			return false
		}
	}
	return true
}

// plainSupport is P15.3, by what the test knows of the seals: bits has, of each state, who signed it; bad, whether a seal is none.
func plainSupport(f api.Fixed, l []api.Signed, bits []int, bad bool) api.Errno {
	if len(l) == 0 || len(l) > len(f.Parts) || !state.FitFixed(f) {
		return api.ErrForm
	}
	vars := make([]api.Var, len(l))
	for i, s := range l {
		if !state.FitVar(s.Var) || len(s.Seals) > len(f.Parts) {
			return api.ErrForm
		}
		vars[i] = s.Var
	}
	for i := range vars[1:] {
		if err := rule.Follows(f, vars[i], vars[i+1]); err != api.OK {
			return err
		}
	}
	if bad {
		return api.ErrSeal
	}
	if !plainProven(len(f.Parts), vars, bits) {
		return api.ErrProof
	}
	return api.OK
}

// show spells out a row: unlike ones are unlike.
func show(l ...api.Signed) string {
	out := ""
	for _, s := range l {
		out += fmt.Sprintf("turn %d, final %v, data %q, seals %v", s.Var.Turn, s.Var.Final, s.Var.Data, s.Seals)
		for _, e := range s.Var.Exits {
			out += fmt.Sprintf(", exit %x:", e.Asset)
			for _, a := range e.Allocs {
				out += fmt.Sprintf(" %x %v %d %x %x", a.Dest, a.Amount, a.Kind, a.Left, a.Right)
			}
		}
		out += "; "
	}
	return out
}

func showVar(v api.Var) string { return show(api.Signed{Var: v}) }

// twin is a signed state in memory of its own.
func twin(s api.Signed) api.Signed {
	s.Seals = slices.Clone(s.Seals)
	s.Var.Exits = slices.Clone(s.Var.Exits)
	for i, e := range s.Var.Exits {
		s.Var.Exits[i].Allocs = slices.Clone(e.Allocs)
	}
	return s
}

func twins(l []api.Signed) []api.Signed {
	var out []api.Signed
	for _, s := range l {
		out = append(out, twin(s))
	}
	return out
}

// wipe overwrites all memory of a state's lists.
func wipe(v api.Var) {
	for i := range v.Exits {
		clear(v.Exits[i].Allocs[:cap(v.Exits[i].Allocs)])
	}
	clear(v.Exits[:cap(v.Exits)])
}

// unfitVars are beyond each bound of a state.
func unfitVars() []api.Var {
	odd := func(change func(*api.Alloc)) api.Var {
		v := at(9)
		change(&v.Exits[0].Allocs[1])
		return v
	}
	return []api.Var{
		{Turn: api.MaxTurn + 1}, {Turn: top}, {Turn: 9, Data: rep(0, api.MaxData+1)},
		{Turn: 9, Exits: slices.Concat(exits(1), exits(2))}, {Turn: 9, Exits: []api.Exit{{}}}, {Turn: 9, Exits: []api.Exit{{Asset: rep(1, 19)}}},
		{Turn: 9, Exits: []api.Exit{{Asset: rep(1, 20)}, {Asset: rep(2, 20)}, {Asset: rep(3, 20)}, {Asset: rep(4, 20)}}},
		{Turn: 9, Exits: exits(1, 2, 3, 4, 5, 6, 7, 8, 9)},
		odd(func(a *api.Alloc) { a.Dest = rep(1, 31) }), odd(func(a *api.Alloc) { a.Kind = 2 }), odd(func(a *api.Alloc) { a.Left = rep(1, 32) }),
		odd(func(a *api.Alloc) { a.Kind = api.PayBound }), odd(func(a *api.Alloc) { a.Amount = api.U{top, top, top, top} }),
	}
}

// unfitChannels are beyond each bound of a channel.
func unfitChannels(t testing.TB) []api.Fixed {
	t.Helper()
	out := []api.Fixed{{}, channel(t, 0, ""), channel(t, 1, ""), channel(t, 5, ""), channel(t, 2, rep(0, api.MaxApp+1))}
	for _, time := range []int{-1, 0, api.MaxTime + 1} {
		f := channel(t, 2, "")
		f.Time = time
		out = append(out, f)
	}
	for _, second := range []string{"", whoOf(t, keyOf(0)), whoOf(t, keyOf(1))[1:], whoOf(t, keyOf(1)) + "\x00"} {
		f := channel(t, 2, "")
		f.Parts[1] = second
		out = append(out, f)
	}
	return out
}

// badSeals are none of a participant's, of that state.
func badSeals(t testing.TB, f api.Fixed, v api.Var) []api.Seal {
	t.Helper()
	good := sealOf(t, f, v, 0)
	with := func(change func(*api.Seal)) api.Seal {
		s := good
		change(&s)
		return s
	}
	later, final, elsewhere := v, v, f
	later.Turn++
	final.Final = !final.Final
	elsewhere.Nonce++
	return []api.Seal{
		{}, {R: api.U{top, top, top, top}, S: api.U{1}}, {R: api.U{1}},
		with(func(s *api.Seal) { s.R = api.U{} }), with(func(s *api.Seal) { s.S = api.U{} }), with(func(s *api.Seal) { s.S = api.U{top, top, top, top} }),
		with(func(s *api.Seal) { s.Odd = !s.Odd }), with(func(s *api.Seal) { s.S[0] ^= 1 }),
		// No point of the curve has the X 5.
		with(func(s *api.Seal) { s.R = api.U{5} }),
		sealOf(t, f, v, stranger), sealOf(t, f, later, 0), sealOf(t, f, final, 0), sealOf(t, elsewhere, v, 0),
	}
}
