package fund

import (
	"fmt"
	"math/big"
	"strings"
	"sync"
	"testing"

	"truce/api"
	"truce/book"
	"truce/call"
	"truce/codes"
	"truce/judge"
	"truce/key"
	"truce/seal"
	"truce/state"
	"truce/turn"
)

const top = 1<<64 - 1

var all = api.U{top, top, top, top}

// mix is a fixed row of numbers that look mixed: the tests must go alike each time.
func mix(seed *uint64) uint64 {
	*seed += 0x9e3779b97f4a7c15
	z := *seed
	z = (z ^ z>>30) * 0xbf58476d1ce4e5b9
	z = (z ^ z>>27) * 0x94d049bb133111eb
	return z ^ z>>31
}

func below(seed *uint64, n int) int { return int(mix(seed) % uint64(n)) }

func rep(b byte, n int) string { return strings.Repeat(string([]byte{b}), n) }

// keyOf is the key of a channel's participant.
func keyOf(part int) api.U { return key.Small(uint64(10 + part)) }

func whoOf(t testing.TB, part int) string {
	t.Helper()
	who, err := key.Who(keyOf(part))
	if err != api.OK {
		t.Fatalf("no key: %d", part)
	}
	return who
}

func destOf(t testing.TB, part int) string {
	t.Helper()
	return state.Dest(whoOf(t, part))
}

// Codes of rules; bare is none.
const (
	bare = ""
	yes  = "PUSH1 01 PUSH0 MSTORE PUSH1 20 PUSH0 RETURN"
	no   = "PUSH0 PUSH0 MSTORE PUSH1 20 PUSH0 RETURN"
)

// channel is a fit one of n participants, with a rule that says this.
func channel(t testing.TB, n int, says string) api.Fixed {
	t.Helper()
	app, at, err := codes.Assemble(says)
	if err != api.OK {
		t.Fatalf("no code: %q at %d", says, at)
	}
	f := api.Fixed{Time: 9, Nonce: 3, App: app}
	for i := range n {
		f.Parts = append(f.Parts, whoOf(t, i))
	}
	return f
}

// Assets of tests.
var gold, wool = rep(7, 20), rep(8, 20)

func exit(asset string, l ...api.Alloc) api.Exit { return api.Exit{Asset: asset, Allocs: l} }

// plain is an allocation to a participant.
func plain(t testing.TB, part int, n uint64) api.Alloc {
	t.Helper()
	return api.Alloc{Dest: destOf(t, part), Amount: api.U{n}}
}

// bound is an allocation that is bound to a channel between two participants.
func bound(t testing.TB, f api.Fixed, left, right int, n uint64) api.Alloc {
	t.Helper()
	return api.Alloc{Dest: state.Id(f), Amount: api.U{n}, Kind: api.PayBound, Left: destOf(t, left), Right: destOf(t, right)}
}

// split is an outcome of gold alone: so much for each participant.
func split(t testing.TB, amounts ...uint64) []api.Exit {
	t.Helper()
	e := exit(gold)
	for part, n := range amounts {
		e.Allocs = append(e.Allocs, plain(t, part, n))
	}
	return []api.Exit{e}
}

// at is a state of a turn, with nothing to share.
func at(turn uint64) api.Var { return api.Var{Turn: turn, Data: "d"} }

// with is a state of a turn, with an outcome.
func with(turn uint64, l []api.Exit) api.Var { return api.Var{Turn: turn, Data: "d", Exits: l} }

func final(v api.Var) api.Var {
	v.Final = true
	return v
}

// seals has each seal that a test has made, since they are dear to make.
var seals sync.Map

// sealOf is a participant's seal of a state.
func sealOf(t testing.TB, f api.Fixed, v api.Var, part int) api.Seal {
	t.Helper()
	digest := state.Digest(f, v)
	name := fmt.Sprint(digest, part)
	if s, ok := seals.Load(name); ok {
		return s.(api.Seal)
	}
	s, err := seal.Make(digest, keyOf(part))
	if err != api.OK {
		t.Fatalf("no seal: %d", err)
	}
	seals.Store(name, s)
	return s
}

// Entries of each kind.

func enMine(t testing.TB, f api.Fixed, v api.Var, part int) api.Entry {
	t.Helper()
	return api.Entry{Kind: api.EnMine, Channel: state.Id(f), Var: v, Seal: sealOf(t, f, v, part)}
}

func enSeen(t testing.TB, f api.Fixed, v api.Var, part int) api.Entry {
	t.Helper()
	return api.Entry{Kind: api.EnSeen, Channel: state.Id(f), Var: v, Who: part, Seal: sealOf(t, f, v, part)}
}

// bookOf is a participant's book with some channels.
func bookOf(t testing.TB, me int, l ...api.Fixed) api.Book {
	t.Helper()
	b := takes(t, api.Book{}, api.Entry{Kind: api.EnKey, Key: keyOf(me)})
	for _, f := range l {
		b = takes(t, b, api.Entry{Kind: api.EnChan, Fixed: f})
	}
	return b
}

// takes is a book behind entries that it must take.
func takes(t testing.TB, b api.Book, l ...api.Entry) api.Book {
	t.Helper()
	for i, e := range l {
		next, err := book.Apply(b, e)
		if err != api.OK {
			t.Fatalf("entry %d, kind %d, turn %d: error %d", i, e.Kind, e.Var.Turn, err)
		}
		b = next
	}
	return b
}

// holds is a book behind a state with these participants' seals.
func holds(t testing.TB, b api.Book, f api.Fixed, v api.Var, parts ...int) api.Book {
	t.Helper()
	for _, part := range parts {
		if f.Parts[part] == b.Who {
			b = takes(t, b, enMine(t, f, v, part))
		} else {
			b = takes(t, b, enSeen(t, f, v, part))
		}
	}
	return b
}

// spelled spells out a book, an entry, or what there is: unlike ones are unlike. An empty list is none.
func spelled(a any) string { return fmt.Sprintf("%+v", a) }

// toldEntry is an entry in words of a bearable length.
func toldEntry(e api.Entry) string {
	return fmt.Sprintf("kind %d, channel %.4x, %s, who %d, seal %d.., goal %d", e.Kind, e.Channel, toldVar(e.Var), e.Who, e.Seal.R[0], e.Goal)
}

func toldVar(v api.Var) string {
	out := fmt.Sprintf("turn %d final %t %.9q", v.Turn, v.Final, v.Data)
	for _, e := range v.Exits {
		out += fmt.Sprintf(" %.1x:", e.Asset)
		for _, a := range e.Allocs {
			out += fmt.Sprintf(" %d of %d", a.Amount[0], a.Kind)
		}
	}
	return out
}

// toldChan is a channel in words; of each kept state its turn, its data, and who signed it.
func toldChan(c api.Chan) string {
	out := fmt.Sprintf("%.4x me %d mine %d kept", c.Id, c.Me, c.Mine)
	for _, k := range c.Kept {
		out += fmt.Sprintf(" %d%.2q", k.Var.Turn, k.Var.Data)
		for part, has := range k.Has {
			if has {
				out += fmt.Sprint("+", part)
			}
		}
	}
	return out
}

// wantEntry fails the test unless an answer is this one.
func wantEntry(t testing.TB, what string, got api.Entry, err api.Errno, want api.Entry, wantErr api.Errno) {
	t.Helper()
	if err != wantErr || spelled(got) != spelled(want) {
		t.Errorf("%s: %s, error %d; want %s, error %d", what, toldEntry(got), err, toldEntry(want), wantErr)
	}
}

func enGoal(f api.Fixed, goal int) api.Entry {
	return api.Entry{Kind: api.EnGoal, Channel: state.Id(f), Goal: goal}
}

// sealed is a book behind a state that all have signed.
func sealed(t testing.TB, b api.Book, f api.Fixed, v api.Var) api.Book {
	t.Helper()
	for part := range f.Parts {
		b = holds(t, b, f, v, part)
	}
	return b
}

// lays is a judge that holds so much more for a channel; of 0 it is as it was.
func lays(t testing.TB, j api.Judge, f api.Fixed, asset string, n api.U) api.Judge {
	t.Helper()
	j, err := judge.Deposit(j, state.Id(f), asset, judge.Held(j, state.Id(f), asset), n)
	if err != api.OK {
		t.Fatalf("not laid down: error %d", err)
	}
	return j
}

// judgeOf is one that holds so much gold for a channel, and no more.
func judgeOf(t testing.TB, f api.Fixed, n uint64) api.Judge {
	t.Helper()
	return lays(t, api.Judge{}, f, gold, api.U{n})
}

// chanOf is a channel of a book that has it.
func chanOf(t testing.TB, b api.Book, f api.Fixed) api.Chan {
	t.Helper()
	c, ok := book.Find(b, state.Id(f))
	if !ok {
		t.Fatal("no such channel")
	}
	return c
}

// txOf is what lays down so much.
func txOf(f api.Fixed, asset string, expect, n uint64) api.Tx {
	return api.Tx{Kind: api.TxDeposit, Channel: state.Id(f), Asset: asset, Expect: api.U{expect}, Amount: api.U{n}}
}

// laidDown is a judge behind a transaction that can be written, and that it must take.
func laidDown(t testing.TB, j api.Judge, tx api.Tx) api.Judge {
	t.Helper()
	if !call.Fit(tx) {
		t.Fatalf("not fit: %s", toldTxs([]api.Tx{tx}))
	}
	j, err := judge.Deposit(j, tx.Channel, tx.Asset, tx.Expect, tx.Amount)
	if err != api.OK {
		t.Fatalf("not taken: error %d: %s", err, toldTxs([]api.Tx{tx}))
	}
	return j
}

// toldTxs are transactions in words.
func toldTxs(l []api.Tx) string {
	out := fmt.Sprint(len(l), ":")
	for _, tx := range l {
		out += fmt.Sprintf(" kind %d of %.1x %d expecting %d;", tx.Kind, tx.Asset, tx.Amount, tx.Expect)
	}
	return out
}

// What the chapter says, in the order of its words.

func bigOf(n api.U) *big.Int {
	out := new(big.Int)
	for i := range n {
		out.Lsh(out, 64)
		out.Add(out, new(big.Int).SetUint64(n[len(n)-1-i]))
	}
	return out
}

// plainHeld is what lies there for a channel, of an asset.
func plainHeld(j api.Judge, channel, asset string) *big.Int {
	out := new(big.Int)
	for _, h := range j.Holds {
		if h.Channel == channel && h.Asset == asset {
			out.Add(out, bigOf(h.Amount))
		}
	}
	return out
}

// plainAgreed is the agreed state, or nil.
func plainAgreed(c api.Chan) *api.Var {
	l := book.Best(c)
	if len(l) == 0 {
		return nil
	}
	if last := l[len(l)-1].Var; int(last.Turn) >= len(c.Fixed.Parts)-1 {
		return &last
	}
	return nil
}

// plainFunded is P26.1.
func plainFunded(j api.Judge, c api.Chan) bool {
	v := plainAgreed(c)
	if v == nil {
		return false
	}
	for _, e := range v.Exits {
		total := new(big.Int)
		for _, a := range e.Allocs {
			total.Add(total, bigOf(a.Amount))
		}
		if plainHeld(j, c.Id, e.Asset).Cmp(total) < 0 {
			return false
		}
	}
	return true
}

func plainFind(b api.Book, id string) *api.Chan {
	for _, c := range b.Chans {
		if c.Id == id {
			return &c
		}
	}
	return nil
}

// plainDeposits is P26.2.
func plainDeposits(j api.Judge, b api.Book, id string) []api.Tx {
	c := plainFind(b, id)
	if c == nil || c.Goal == 1 || plainAgreed(*c) == nil {
		return nil
	}
	v := plainAgreed(*c)
	if int(v.Turn) >= 2*len(c.Fixed.Parts)-1 {
		return nil
	}
	var out []api.Tx
	for _, e := range v.Exits {
		ahead := new(big.Int)
		for place, a := range e.Allocs {
			if place == c.Me && a.Kind == 0 && a.Dest == rep(0, 12)+b.Who && bigOf(a.Amount).Sign() > 0 && plainHeld(j, id, e.Asset).Cmp(ahead) == 0 {
				out = append(out, api.Tx{Kind: 1, Channel: id, Asset: e.Asset, Amount: a.Amount, Expect: judge.Held(j, id, e.Asset)})
			}
			ahead.Add(ahead, bigOf(a.Amount))
		}
	}
	return out
}

// plainLast is the last state of a channel of which some are kept.
func plainLast(c api.Chan) api.Var {
	last := c.Kept[0].Var
	for _, k := range c.Kept {
		if k.Var.Turn > last.Turn {
			last = k.Var
		}
	}
	return last
}

// plainReady is P26.3.
func plainReady(j api.Judge, b api.Book, id string) (api.Entry, api.Errno) {
	c := plainFind(b, id)
	if c == nil {
		return api.Entry{}, api.ErrNone
	}
	if !plainFunded(j, *c) || c.Goal == 1 {
		return api.Entry{}, api.ErrOpen
	}
	last := plainLast(*c)
	if !(int(last.Turn)+1 < 2*len(c.Fixed.Parts)) {
		return api.Entry{}, api.ErrTurn
	}
	return turn.Propose(b, id, last.Data, last.Exits, false)
}

// wantFunded fails the test unless a channel is funded, or not, by the test's word and by the chapter's.
func wantFunded(t testing.TB, what string, j api.Judge, b api.Book, f api.Fixed, want bool) {
	t.Helper()
	c := chanOf(t, b, f)
	before := spelled(j) + spelled(c)
	if got, said := Funded(j, c), plainFunded(j, c); got != want || said != want {
		t.Errorf("%s: funded %t, want %t; the chapter's words say %t; %s", what, got, want, said, toldChan(c))
	}
	if spelled(j)+spelled(c) != before {
		t.Errorf("%s: what was given was changed", what)
	}
}

// wantDeposits fails the test unless these are laid down, by the test's list and by the chapter's words.
func wantDeposits(t testing.TB, what string, j api.Judge, b api.Book, f api.Fixed, want ...api.Tx) {
	t.Helper()
	before := spelled(j) + spelled(b)
	got, said := Deposits(j, b, state.Id(f)), plainDeposits(j, b, state.Id(f))
	if spelled(got) != spelled(want) || spelled(said) != spelled(want) {
		t.Errorf("%s: %s want %s the chapter's words say %s", what, toldTxs(got), toldTxs(want), toldTxs(said))
	}
	if spelled(j)+spelled(b) != before {
		t.Errorf("%s: what was given was changed", what)
	}
}

// wantReady fails the test unless a wallet's entry is that of this state, or has this error.
func wantReady(t testing.TB, what string, j api.Judge, b api.Book, f api.Fixed, v api.Var, wantErr api.Errno) {
	t.Helper()
	before := spelled(j) + spelled(b)
	var want api.Entry
	if wantErr == api.OK {
		want = enMine(t, f, v, chanOf(t, b, f).Me)
	}
	got, err := Ready(j, b, state.Id(f))
	wantEntry(t, what, got, err, want, wantErr)
	said, saidErr := plainReady(j, b, state.Id(f))
	wantEntry(t, what+", by the chapter's words", said, saidErr, want, wantErr)
	if spelled(j)+spelled(b) != before {
		t.Errorf("%s: what was given was changed", what)
	}
}
