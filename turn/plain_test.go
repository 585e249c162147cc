package turn

import (
	"fmt"
	"math/big"
	"slices"
	"strings"
	"sync"
	"testing"

	"truce/api"
	"truce/book"
	"truce/codes"
	"truce/curve"
	"truce/key"
	"truce/modu"
	"truce/num"
	"truce/rule"
	"truce/seal"
	"truce/state"
)

const top = 1<<64 - 1

var all = api.U{top, top, top, top}

// mix is a fixed row of numbers that look mixed: the tests must go alike each time.
func mix(seed *uint64) uint64 {
	*seed += 0x9e3779b97f4a7c15
	z := *seed
	z = (z ^ z>>30) * 0xbf58476d1ce4e5b9
	z = (z ^ z>>27) * 0x94d049bb133111eb
	return z ^ z>>31
}

func below(seed *uint64, n int) int { return int(mix(seed) % uint64(n)) }

func rep(b byte, n int) string { return strings.Repeat(string([]byte{b}), n) }

// keyOf is the key of a channel's participant; stranger is who is none.
func keyOf(part int) api.U { return key.Small(uint64(10 + part)) }

const stranger = 90

func whoOf(t testing.TB, part int) string {
	t.Helper()
	who, err := key.Who(keyOf(part))
	if err != api.OK {
		t.Fatalf("no key: %d", part)
	}
	return who
}

func destOf(t testing.TB, part int) string {
	t.Helper()
	return state.Dest(whoOf(t, part))
}

// Codes of rules; bare is none.
const (
	bare = ""
	yes  = "PUSH1 01 PUSH0 MSTORE PUSH1 20 PUSH0 RETURN"
	no   = "PUSH0 PUSH0 MSTORE PUSH1 20 PUSH0 RETURN"
)

// channel is a fit one of n participants, with a rule that says this.
func channel(t testing.TB, n int, says string) api.Fixed {
	t.Helper()
	app, at, err := codes.Assemble(says)
	if err != api.OK {
		t.Fatalf("no code: %q at %d", says, at)
	}
	f := api.Fixed{Time: 9, Nonce: 3, App: app}
	for i := range n {
		f.Parts = append(f.Parts, whoOf(t, i))
	}
	return f
}

// numbered is one of some channels that are unlike by their number alone.
func numbered(t testing.TB, n int, says string, nonce uint64) api.Fixed {
	t.Helper()
	f := channel(t, n, says)
	f.Nonce = nonce
	return f
}

// Assets of tests.
var gold, wool = rep(7, 20), rep(8, 20)

func exit(asset string, l ...api.Alloc) api.Exit { return api.Exit{Asset: asset, Allocs: l} }

// plain is an allocation to a participant.
func plain(t testing.TB, part int, n uint64) api.Alloc {
	t.Helper()
	return api.Alloc{Dest: destOf(t, part), Amount: api.U{n}}
}

// bound is an allocation that is bound to a channel between two participants.
func bound(t testing.TB, f api.Fixed, left, right int, n uint64) api.Alloc {
	t.Helper()
	return api.Alloc{Dest: state.Id(f), Amount: api.U{n}, Kind: api.PayBound, Left: destOf(t, left), Right: destOf(t, right)}
}

// split is an outcome of gold alone: so much for each participant.
func split(t testing.TB, amounts ...uint64) []api.Exit {
	t.Helper()
	e := exit(gold)
	for part, n := range amounts {
		e.Allocs = append(e.Allocs, plain(t, part, n))
	}
	return []api.Exit{e}
}

// at is a state of a turn, with nothing to share; other is another one of that turn.
func at(turn uint64) api.Var { return api.Var{Turn: turn, Data: "d"} }

func other(turn uint64) api.Var { return api.Var{Turn: turn, Data: "e"} }

// with is a state of a turn, with an outcome.
func with(turn uint64, l []api.Exit) api.Var { return api.Var{Turn: turn, Data: "d", Exits: l} }

func final(v api.Var) api.Var {
	v.Final = true
	return v
}

// seals has each seal that a test has made, since they are dear to make.
var seals sync.Map

// sealOf is a participant's seal of a state.
func sealOf(t testing.TB, f api.Fixed, v api.Var, part int) api.Seal {
	t.Helper()
	digest := state.Digest(f, v)
	name := fmt.Sprint(digest, part)
	if s, ok := seals.Load(name); ok {
		return s.(api.Seal)
	}
	s, err := seal.Make(digest, keyOf(part))
	if err != api.OK {
		t.Fatalf("no seal: %d", err)
	}
	seals.Store(name, s)
	return s
}

// secondSeal is another seal of a state by a participant: of a number of its own. Both tell whose they are.
func secondSeal(t testing.TB, f api.Fixed, v api.Var, part int) api.Seal {
	t.Helper()
	digest, order, number := state.Digest(f, v), curve.Order(), num.Of(7)
	e, _ := num.Read(digest)
	p := curve.Mul(number, curve.Base())
	back, _ := modu.Inverse(number, order)
	s := api.Seal{R: p.X, S: modu.MulMod(back, modu.AddMod(e, modu.MulMod(p.X, keyOf(part), order), order), order), Odd: p.Y[0]%2 == 1}
	if num.Cmp(s.S, num.Shr(order, 1)) > 0 {
		s.S, _ = num.Sub(order, s.S)
		s.Odd = !s.Odd
	}
	if who, err := seal.Who(digest, s); err != api.OK || who != f.Parts[part] || s == sealOf(t, f, v, part) {
		t.Fatalf("no second seal: error %d", err)
	}
	return s
}

// signed is a state with these participants' seals.
func signed(t testing.TB, f api.Fixed, v api.Var, parts ...int) api.Signed {
	t.Helper()
	s := api.Signed{Var: v}
	for _, part := range parts {
		s.Seals = append(s.Seals, sealOf(t, f, v, part))
	}
	return s
}

// Entries of each kind.

func enMine(t testing.TB, f api.Fixed, v api.Var, part int) api.Entry {
	t.Helper()
	return api.Entry{Kind: api.EnMine, Channel: state.Id(f), Var: v, Seal: sealOf(t, f, v, part)}
}

func enSeen(t testing.TB, f api.Fixed, v api.Var, part int) api.Entry {
	t.Helper()
	return api.Entry{Kind: api.EnSeen, Channel: state.Id(f), Var: v, Who: part, Seal: sealOf(t, f, v, part)}
}

// bookOf is a participant's book with some channels.
func bookOf(t testing.TB, me int, l ...api.Fixed) api.Book {
	t.Helper()
	b := takes(t, api.Book{}, api.Entry{Kind: api.EnKey, Key: keyOf(me)})
	for _, f := range l {
		b = takes(t, b, api.Entry{Kind: api.EnChan, Fixed: f})
	}
	return b
}

// takes is a book behind entries that it must take.
func takes(t testing.TB, b api.Book, l ...api.Entry) api.Book {
	t.Helper()
	for i, e := range l {
		next, err := book.Apply(b, e)
		if err != api.OK {
			t.Fatalf("entry %d, kind %d, turn %d: error %d", i, e.Kind, e.Var.Turn, err)
		}
		b = next
	}
	return b
}

// holds is a book behind a state with these participants' seals.
func holds(t testing.TB, b api.Book, f api.Fixed, v api.Var, parts ...int) api.Book {
	t.Helper()
	for _, part := range parts {
		if f.Parts[part] == b.Who {
			b = takes(t, b, enMine(t, f, v, part))
		} else {
			b = takes(t, b, enSeen(t, f, v, part))
		}
	}
	return b
}

// spelled spells out a book, an entry, or what there is: unlike ones are unlike. An empty list is none.
func spelled(a any) string { return fmt.Sprintf("%+v", a) }

// toldEntry is an entry in words of a bearable length.
func toldEntry(e api.Entry) string {
	return fmt.Sprintf("kind %d, channel %.4x, %s, who %d, seal %d.., goal %d", e.Kind, e.Channel, toldVar(e.Var), e.Who, e.Seal.R[0], e.Goal)
}

func toldVar(v api.Var) string {
	out := fmt.Sprintf("turn %d final %t %.9q", v.Turn, v.Final, v.Data)
	for _, e := range v.Exits {
		out += fmt.Sprintf(" %.1x:", e.Asset)
		for _, a := range e.Allocs {
			out += fmt.Sprintf(" %d of %d", a.Amount[0], a.Kind)
		}
	}
	return out
}

// toldChan is a channel in words; of each kept state its turn, its data, and who signed it.
func toldChan(c api.Chan) string {
	out := fmt.Sprintf("%.4x me %d mine %d kept", c.Id, c.Me, c.Mine)
	for _, k := range c.Kept {
		out += fmt.Sprintf(" %d%.2q", k.Var.Turn, k.Var.Data)
		for part, has := range k.Has {
			if has {
				out += fmt.Sprint("+", part)
			}
		}
	}
	return out
}

// wantEntry fails the test unless an answer is this one.
func wantEntry(t testing.TB, what string, got api.Entry, err api.Errno, want api.Entry, wantErr api.Errno) {
	t.Helper()
	if err != wantErr || spelled(got) != spelled(want) {
		t.Errorf("%s: %s, error %d; want %s, error %d", what, toldEntry(got), err, toldEntry(want), wantErr)
	}
}

// wantEntries fails the test unless the answers are these.
func wantEntries(t testing.TB, what string, got []api.Entry, err api.Errno, want []api.Entry, wantErr api.Errno) {
	t.Helper()
	if err == wantErr && spelled(got) == spelled(want) {
		return
	}
	t.Errorf("%s: %d entries, error %d; want %d, error %d", what, len(got), err, len(want), wantErr)
	for i := range min(len(got), len(want)) {
		if spelled(got[i]) != spelled(want[i]) {
			t.Errorf("%s, entry %d: %s; want %s", what, i, toldEntry(got[i]), toldEntry(want[i]))
		}
	}
}

// What the chapter says, in the order of its words.

// plainTotals are an outcome's sums by its assets.
func plainTotals(l []api.Exit) map[string]*big.Int {
	out := map[string]*big.Int{}
	for _, e := range l {
		for _, a := range e.Allocs {
			if a.Amount == (api.U{}) {
				continue
			}
			if out[e.Asset] == nil {
				out[e.Asset] = new(big.Int)
			}
			out[e.Asset].Add(out[e.Asset], bigOf(a.Amount))
		}
	}
	return out
}

func bigOf(n api.U) *big.Int {
	out := new(big.Int)
	for i := range n {
		out.Lsh(out, 64)
		out.Add(out, new(big.Int).SetUint64(n[len(n)-1-i]))
	}
	return out
}

func numberOf(n *big.Int) api.U {
	var out api.U
	for i := range out {
		out[i] = new(big.Int).And(new(big.Int).Rsh(n, uint(64*i)), new(big.Int).SetUint64(top)).Uint64()
	}
	return out
}

// plainLast is the last state, or nil.
func plainLast(c api.Chan) *api.Kept {
	var turns []uint64
	for _, k := range c.Kept {
		turns = append(turns, k.Var.Turn)
	}
	for _, k := range c.Kept {
		if k.Var.Turn == slices.Max(turns) {
			return &k
		}
	}
	return nil
}

// plainMay is OK, if a state may come, or what is said then.
func plainMay(c api.Chan, v api.Var) api.Errno {
	last := plainLast(c)
	if last == nil {
		if v.Turn != 0 {
			return api.ErrTurn
		}
		if v.Final {
			return api.ErrRule
		}
		return api.OK
	}
	said := rule.Follows(c.Fixed, last.Var, v)
	if said == api.OK {
		return api.OK
	}
	next := last.Var.Turn+1 == v.Turn && v.Turn >= uint64(len(c.Fixed.Parts)*2)
	if len(c.Fixed.App) == 0 && next && !last.Var.Final && !v.Final && fmt.Sprint(plainTotals(v.Exits)) == fmt.Sprint(plainTotals(last.Var.Exits)) {
		return api.OK
	}
	return said
}

// plainWorth is P25.1.
func plainWorth(b api.Book, l []api.Exit, asset string) api.U {
	sum, own := new(big.Int), state.Dest(b.Who)
	if !state.FitVar(api.Var{Exits: l}) {
		return api.U{}
	}
	for _, e := range l {
		if e.Asset != asset {
			continue
		}
		for _, a := range e.Allocs {
			if a.Kind == api.PayPlain && a.Dest == own {
				sum.Add(sum, bigOf(a.Amount))
			}
			between := a.Left == own && a.Right != own || a.Right == own && a.Left != own
			if a.Kind != api.PayBound || !between {
				continue
			}
			for _, c := range b.Chans {
				if c.Id == a.Dest {
					share := plainShare(c, asset, a.Left != own)
					if share.Cmp(bigOf(a.Amount)) > 0 {
						share = bigOf(a.Amount)
					}
					sum.Add(sum, share)
				}
			}
		}
	}
	return numberOf(sum)
}

// plainShare is the first amount that a channel promises, or the second one.
func plainShare(c api.Chan, asset string, second bool) *big.Int {
	best := book.Best(c)
	if len(best) == 0 {
		return new(big.Int)
	}
	for _, e := range best[len(best)-1].Var.Exits {
		if e.Asset == asset && len(e.Allocs) == 2 && e.Allocs[0].Kind+e.Allocs[1].Kind == 0 {
			if second {
				return bigOf(e.Allocs[1].Amount)
			}
			return bigOf(e.Allocs[0].Amount)
		}
	}
	return new(big.Int)
}

func plainFind(b api.Book, id string) *api.Chan {
	for _, c := range b.Chans {
		if c.Id == id {
			return &c
		}
	}
	return nil
}

// plainMine is the entry of a state with the book's own seal.
func plainMine(t testing.TB, b api.Book, c api.Chan, v api.Var) (api.Entry, api.Errno) {
	t.Helper()
	return api.Entry{Kind: 3, Channel: c.Id, Var: v, Seal: sealOf(t, c.Fixed, v, placeOf(t, b.Who))}, api.OK
}

// placeOf is whose key an address's is.
func placeOf(t testing.TB, who string) int {
	t.Helper()
	for part := range 4 {
		if whoOf(t, part) == who {
			return part
		}
	}
	t.Fatal("nobody's book")
	return 0
}

// plainPropose is P25.2.
func plainPropose(t testing.TB, b api.Book, id, data string, l []api.Exit, isFinal bool) (api.Entry, api.Errno) {
	t.Helper()
	c := plainFind(b, id)
	if c == nil {
		return api.Entry{}, api.ErrNone
	}
	v := api.Var{Data: data, Exits: l, Final: isFinal}
	if last := plainLast(*c); last != nil {
		v.Turn = last.Var.Turn + 1
	}
	if !state.FitVar(v) {
		return api.Entry{}, api.ErrForm
	}
	if v.Turn%uint64(len(c.Fixed.Parts)) != uint64(c.Me) || v.Turn < c.Mine {
		return api.Entry{}, api.ErrTurn
	}
	if err := plainMay(*c, v); err != api.OK {
		return api.Entry{}, err
	}
	return plainMine(t, b, *c, v)
}

// plainAccept is P25.3.
func plainAccept(t testing.TB, b api.Book, id string, s api.Signed) ([]api.Entry, api.Errno) {
	t.Helper()
	c := plainFind(b, id)
	if c == nil {
		return nil, api.ErrNone
	}
	if !state.FitVar(s.Var) || len(s.Seals) > len(c.Fixed.Parts) {
		return nil, api.ErrForm
	}
	first := map[int]api.Seal{}
	for _, one := range s.Seals {
		who, err := seal.Who(state.Digest(c.Fixed, s.Var), one)
		part := slices.Index(c.Fixed.Parts, who)
		if err != api.OK || part < 0 {
			return nil, api.ErrSeal
		}
		if _, has := first[part]; !has {
			first[part] = one
		}
	}
	kept := map[int]bool{}
	isKept := false
	for _, k := range c.Kept {
		if k.Var.Turn == s.Var.Turn {
			isKept = true
			if state.Write(k.Var) != state.Write(s.Var) {
				return nil, api.ErrThere
			}
			for part, has := range k.Has {
				kept[part] = has
			}
		}
	}
	if !isKept {
		if err := plainMay(*c, s.Var); err != api.OK {
			return nil, err
		}
		if _, has := first[int(s.Var.Turn%uint64(len(c.Fixed.Parts)))]; !has {
			return nil, api.ErrProof
		}
	}
	var out []api.Entry
	for part := range c.Fixed.Parts {
		if one, has := first[part]; has && part != c.Me && !kept[part] {
			out = append(out, api.Entry{Kind: 4, Channel: c.Id, Var: s.Var, Who: part, Seal: one})
		}
	}
	return out, api.OK
}

// plainAnswer is P25.4.
func plainAnswer(t testing.TB, b api.Book, id string) (api.Entry, api.Errno) {
	t.Helper()
	c := plainFind(b, id)
	if c == nil {
		return api.Entry{}, api.ErrNone
	}
	last := plainLast(*c)
	if last == nil || last.Has[c.Me] || last.Var.Turn < c.Mine || last.Var.Turn < 2*uint64(len(c.Fixed.Parts)) {
		return api.Entry{}, api.ErrNone
	}
	if !last.Var.Final && (c.Fixed.App != "" || !plainNoLess(b, last.Var.Exits, *c)) {
		return api.Entry{}, api.ErrNone
	}
	return plainMine(t, b, *c, last.Var)
}

// plainNoLess tells whether nothing of an outcome is less a wallet's own than what is supported.
func plainNoLess(b api.Book, l []api.Exit, c api.Chan) bool {
	var than []api.Exit
	if best := book.Best(c); len(best) > 0 {
		than = best[len(best)-1].Var.Exits
	}
	for _, e := range append(slices.Clone(l), than...) {
		if bigOf(plainWorth(b, l, e.Asset)).Cmp(bigOf(plainWorth(b, than, e.Asset))) < 0 {
			return false
		}
	}
	return true
}
