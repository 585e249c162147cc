package watch

import (
	"fmt"
	"slices"
	"strings"
	"sync"
	"testing"

	"truce/api"
	"truce/book"
	"truce/call"
	"truce/codes"
	"truce/judge"
	"truce/key"
	"truce/seal"
	"truce/state"
)

const top = 1<<64 - 1

var all = api.U{top, top, top, top}

// mix is a fixed row of numbers that look mixed: the tests must go alike each time.
func mix(seed *uint64) uint64 {
	*seed += 0x9e3779b97f4a7c15
	z := *seed
	z = (z ^ z>>30) * 0xbf58476d1ce4e5b9
	z = (z ^ z>>27) * 0x94d049bb133111eb
	return z ^ z>>31
}

func below(seed *uint64, n int) int { return int(mix(seed) % uint64(n)) }

func rep(b byte, n int) string { return strings.Repeat(string([]byte{b}), n) }

// keyOf is the key of a channel's participant.
func keyOf(part int) api.U { return key.Small(uint64(10 + part)) }

func whoOf(t testing.TB, part int) string {
	t.Helper()
	who, err := key.Who(keyOf(part))
	if err != api.OK {
		t.Fatalf("no key: %d", part)
	}
	return who
}

func destOf(t testing.TB, part int) string {
	t.Helper()
	return state.Dest(whoOf(t, part))
}

// Codes of rules; bare is none.
const (
	bare = ""
	yes  = "PUSH1 01 PUSH0 MSTORE PUSH1 20 PUSH0 RETURN"
	no   = "PUSH0 PUSH0 MSTORE PUSH1 20 PUSH0 RETURN"
)

// channel is a fit one of n participants, with a rule that says this.
func channel(t testing.TB, n int, says string) api.Fixed {
	t.Helper()
	app, at, err := codes.Assemble(says)
	if err != api.OK {
		t.Fatalf("no code: %q at %d", says, at)
	}
	f := api.Fixed{Time: 9, Nonce: 3, App: app}
	for i := range n {
		f.Parts = append(f.Parts, whoOf(t, i))
	}
	return f
}

// Assets of tests.
var gold, wool = rep(7, 20), rep(8, 20)

func exit(asset string, l ...api.Alloc) api.Exit { return api.Exit{Asset: asset, Allocs: l} }

// plain is an allocation to a participant.
func plain(t testing.TB, part int, n uint64) api.Alloc {
	t.Helper()
	return api.Alloc{Dest: destOf(t, part), Amount: api.U{n}}
}

// bound is an allocation that is bound to a channel between two participants.
func bound(t testing.TB, f api.Fixed, left, right int, n uint64) api.Alloc {
	t.Helper()
	return api.Alloc{Dest: state.Id(f), Amount: api.U{n}, Kind: api.PayBound, Left: destOf(t, left), Right: destOf(t, right)}
}

// split is an outcome of gold alone: so much for each participant.
func split(t testing.TB, amounts ...uint64) []api.Exit {
	t.Helper()
	e := exit(gold)
	for part, n := range amounts {
		e.Allocs = append(e.Allocs, plain(t, part, n))
	}
	return []api.Exit{e}
}

// at is a state of a turn, with nothing to share.
func at(turn uint64) api.Var { return api.Var{Turn: turn, Data: "d"} }

// with is a state of a turn, with an outcome.
func with(turn uint64, l []api.Exit) api.Var { return api.Var{Turn: turn, Data: "d", Exits: l} }

func final(v api.Var) api.Var {
	v.Final = true
	return v
}

// seals has each seal that a test has made, since they are dear to make.
var seals sync.Map

// sealOf is a participant's seal of a state.
func sealOf(t testing.TB, f api.Fixed, v api.Var, part int) api.Seal {
	t.Helper()
	digest := state.Digest(f, v)
	name := fmt.Sprint(digest, part)
	if s, ok := seals.Load(name); ok {
		return s.(api.Seal)
	}
	s, err := seal.Make(digest, keyOf(part))
	if err != api.OK {
		t.Fatalf("no seal: %d", err)
	}
	seals.Store(name, s)
	return s
}

// Entries of each kind.

func enMine(t testing.TB, f api.Fixed, v api.Var, part int) api.Entry {
	t.Helper()
	return api.Entry{Kind: api.EnMine, Channel: state.Id(f), Var: v, Seal: sealOf(t, f, v, part)}
}

func enSeen(t testing.TB, f api.Fixed, v api.Var, part int) api.Entry {
	t.Helper()
	return api.Entry{Kind: api.EnSeen, Channel: state.Id(f), Var: v, Who: part, Seal: sealOf(t, f, v, part)}
}

// bookOf is a participant's book with some channels.
func bookOf(t testing.TB, me int, l ...api.Fixed) api.Book {
	t.Helper()
	b := takes(t, api.Book{}, api.Entry{Kind: api.EnKey, Key: keyOf(me)})
	for _, f := range l {
		b = takes(t, b, api.Entry{Kind: api.EnChan, Fixed: f})
	}
	return b
}

// takes is a book behind entries that it must take.
func takes(t testing.TB, b api.Book, l ...api.Entry) api.Book {
	t.Helper()
	for i, e := range l {
		next, err := book.Apply(b, e)
		if err != api.OK {
			t.Fatalf("entry %d, kind %d, turn %d: error %d", i, e.Kind, e.Var.Turn, err)
		}
		b = next
	}
	return b
}

// holds is a book behind a state with these participants' seals.
func holds(t testing.TB, b api.Book, f api.Fixed, v api.Var, parts ...int) api.Book {
	t.Helper()
	for _, part := range parts {
		if f.Parts[part] == b.Who {
			b = takes(t, b, enMine(t, f, v, part))
		} else {
			b = takes(t, b, enSeen(t, f, v, part))
		}
	}
	return b
}

// spelled spells out a book, a judge, or what there is: unlike ones are unlike. An empty list is none.
func spelled(a any) string { return fmt.Sprintf("%+v", a) }

func enGoal(f api.Fixed, goal int) api.Entry {
	return api.Entry{Kind: api.EnGoal, Channel: state.Id(f), Goal: goal}
}

// sealed is a book behind a state that all have signed.
func sealed(t testing.TB, b api.Book, f api.Fixed, v api.Var) api.Book {
	t.Helper()
	for part := range f.Parts {
		b = holds(t, b, f, v, part)
	}
	return b
}

// leaves is a book whose wallet wants to be out of a channel.
func leaves(t testing.TB, b api.Book, f api.Fixed) api.Book {
	t.Helper()
	return takes(t, b, enGoal(f, api.GoalExit))
}

// known is what a judge knows of a channel: no other test's digest is like it.
func known(f api.Fixed, turn uint64, ends int, l ...api.Exit) api.Case {
	return api.Case{Channel: state.Id(f), Turn: turn, Ends: ends, Digest: rep(3, 32), Exits: l}
}

// knows is a judge of these cases, and of what a stranger to all tests has.
func knows(l ...api.Case) api.Judge {
	l = append(l, api.Case{Channel: rep(255, 32), Turn: 1, Ends: 1, Digest: rep(4, 32)})
	slices.SortFunc(l, func(a, b api.Case) int { return strings.Compare(a.Channel, b.Channel) })
	return api.Judge{Cases: l}
}

// lays is a judge that holds so much more for a channel; of 0 it is as it was.
func lays(t testing.TB, j api.Judge, f api.Fixed, asset string, n uint64) api.Judge {
	t.Helper()
	j, err := judge.Deposit(j, state.Id(f), asset, judge.Held(j, state.Id(f), asset), api.U{n})
	if err != api.OK {
		t.Fatalf("not laid down: error %d", err)
	}
	return j
}

// proves is a transaction by which a book's newest state is laid down.
func proves(t testing.TB, kind int, b api.Book, f api.Fixed) api.Tx {
	t.Helper()
	l := book.Best(*plainFind(b, state.Id(f)))
	if len(l) == 0 {
		t.Fatal("nothing is supported")
	}
	return api.Tx{Kind: kind, Fixed: f, Proof: l}
}

func claims(f api.Fixed, asset string, k int) api.Tx {
	return api.Tx{Kind: api.TxClaim, Channel: state.Id(f), Asset: asset, Index: k}
}

func pays(f api.Fixed, asset string) api.Tx {
	return api.Tx{Kind: api.TxTransfer, Channel: state.Id(f), Asset: asset}
}

// done is a judge behind a transaction, what it pays, and its error.
func done(j api.Judge, now int, tx api.Tx) (api.Judge, []api.Coin, api.Errno) {
	var coins []api.Coin
	err := api.ErrForm
	switch tx.Kind {
	case api.TxChallenge:
		j, err = judge.Challenge(j, now, tx.Fixed, tx.Proof)
	case api.TxCheckpoint:
		j, err = judge.Checkpoint(j, now, tx.Fixed, tx.Proof)
	case api.TxConclude:
		j, err = judge.Conclude(j, now, tx.Fixed, tx.Proof)
	case api.TxTransfer:
		j, coins, err = judge.Transfer(j, now, tx.Channel, tx.Asset, tx.Which)
	case api.TxClaim:
		j, err = judge.Claim(j, now, tx.Channel, tx.Asset, tx.Index)
	}
	return j, coins, err
}

// toldTxs are transactions in words.
func toldTxs(l []api.Tx) string {
	out := fmt.Sprint(len(l), ":")
	for _, tx := range l {
		out += " " + []string{"send", "deposit", "challenge", "checkpoint", "conclude", "transfer", "claim"}[tx.Kind]
		out += fmt.Sprintf(" %.2x %.1x %d", tx.Channel, tx.Asset, tx.Index)
		for _, s := range tx.Proof {
			out += fmt.Sprintf(" turn %d by %d", s.Var.Turn, len(s.Seals))
		}
		out += ";"
	}
	return out
}

// toldCase is what a judge knows of a channel in words.
func toldCase(j api.Judge, id string) string {
	c := plainCase(j, id)
	if c == nil {
		return "no case"
	}
	out := fmt.Sprintf("turn %d ends %d", c.Turn, c.Ends)
	for _, e := range c.Exits {
		out += fmt.Sprintf(" %.1x of which %d held:", e.Asset, judge.Held(j, id, e.Asset)[0])
		for _, a := range e.Allocs {
			out += fmt.Sprintf(" %d of %d", a.Amount[0], a.Kind)
		}
	}
	return out
}

// What the chapter says, in the order of its words.

func plainFind(b api.Book, id string) *api.Chan {
	for _, c := range b.Chans {
		if c.Id == id {
			return &c
		}
	}
	return nil
}

func plainCase(j api.Judge, id string) *api.Case {
	for _, c := range j.Cases {
		if c.Channel == id {
			return &c
		}
	}
	return nil
}

func plainMoment(now int) bool { return now > 0 && now < 1<<40+1 }

// plainFinal is chapter 19's word on what has ended.
func plainFinal(j api.Judge, now int, id string) bool {
	c := plainCase(j, id)
	return c != nil && plainMoment(now) && c.Ends > 0 && !(c.Ends > now)
}

// plainRisk is P27.1.
func plainRisk(j api.Judge, now int, b api.Book, id string) bool {
	own, c := plainFind(b, id), plainCase(j, id)
	if own == nil || c == nil || c.Ends == 0 || plainFinal(j, now, id) {
		return false
	}
	l := book.Best(*own)
	return len(l) > 0 && l[len(l)-1].Var.Turn > c.Turn
}

// plainMoves is P27.2.
func plainMoves(j api.Judge, now int, b api.Book, id string) []api.Tx {
	own, c := plainFind(b, id), plainCase(j, id)
	if own == nil || !plainMoment(now) {
		return nil
	}
	if plainFinal(j, now, id) {
		var out []api.Tx
		for _, e := range c.Exits {
			out = append(out, plainOfExit(j, now, own.Fixed, e)...)
		}
		return out
	}
	l := book.Best(*own)
	if len(l) == 0 {
		return nil
	}
	last, kind := l[len(l)-1].Var, 0
	switch {
	case own.Goal == 1 && len(l) == 1 && last.Final:
		kind = api.TxConclude
	case own.Goal == 1 && (c == nil || !(c.Turn > last.Turn) && (c.Ends == 0 || c.Turn < last.Turn)):
		kind = api.TxChallenge
	case plainRisk(j, now, b, id):
		kind = api.TxCheckpoint
	default:
		return nil
	}
	return []api.Tx{{Kind: kind, Fixed: own.Fixed, Proof: l}}
}

// plainOfExit is what P27.2 says of an exit of what has ended.
func plainOfExit(j api.Judge, now int, f api.Fixed, e api.Exit) []api.Tx {
	due := false
	for k, a := range e.Allocs {
		if a.Kind == api.PayBound && plainFinal(j, now, a.Dest) {
			return []api.Tx{claims(f, e.Asset, k)}
		}
		due = due || a.Kind == api.PayPlain && a.Amount != api.U{}
	}
	for _, h := range j.Holds {
		if h.Channel == state.Id(f) && h.Asset == e.Asset && due {
			return []api.Tx{pays(f, e.Asset)}
		}
	}
	return nil
}

// wantRisk fails the test unless a channel is at risk, or not, by the test's word and by the chapter's.
func wantRisk(t testing.TB, what string, j api.Judge, now int, b api.Book, f api.Fixed, want bool) {
	t.Helper()
	id := state.Id(f)
	before := spelled(j) + spelled(b)
	if got, said := Risk(j, now, b, id), plainRisk(j, now, b, id); got != want || said != want {
		t.Errorf("%s: at %d, %s: risk %t, want %t; the chapter's words say %t", what, now, toldCase(j, id), got, want, said)
	}
	if spelled(j)+spelled(b) != before {
		t.Errorf("%s: what was given was changed", what)
	}
}

// wantTold fails the test unless a wallet does this, by the test's list and by the chapter's words, by transactions that can be.
func wantTold(t testing.TB, what string, j api.Judge, now int, b api.Book, f api.Fixed, want ...api.Tx) {
	t.Helper()
	id := state.Id(f)
	if !judge.Fit(j) {
		t.Fatalf("%s: the judge is not fit", what)
	}
	before := spelled(j) + spelled(b)
	got, said := Moves(j, now, b, id), plainMoves(j, now, b, id)
	if spelled(got) != spelled(want) || spelled(said) != spelled(want) {
		t.Errorf("%s: at %d, %s: %s want %s the chapter's words say %s", what, now, toldCase(j, id), toldTxs(got), toldTxs(want), toldTxs(said))
	}
	if spelled(j)+spelled(b) != before {
		t.Errorf("%s: what was given was changed", what)
	}
	for _, tx := range got {
		if !call.Fit(tx) {
			t.Errorf("%s: not fit: %s", what, toldTxs([]api.Tx{tx}))
		}
	}
}

// wantMoves is wantTold of what the judge takes, by which no risk is left. P27.3, P27.4.
func wantMoves(t testing.TB, what string, j api.Judge, now int, b api.Book, f api.Fixed, want ...api.Tx) {
	t.Helper()
	wantTold(t, what, j, now, b, f, want...)
	wantTaken(t, what, j, now, b, f)
}

// wantTaken fails the test unless the judge takes what a wallet does, each alone and one behind the other, and no risk is left.
func wantTaken(t testing.TB, what string, j api.Judge, now int, b api.Book, f api.Fixed) {
	t.Helper()
	id := state.Id(f)
	l, next, risk := Moves(j, now, b, id), j, Risk(j, now, b, id)
	if risk && len(l) != 1 && plainMoment(now) {
		t.Errorf("%s: at risk, and left: %s", what, toldTxs(l))
	}
	for i, tx := range l {
		var err api.Errno
		next, _, err = done(next, now, tx)
		if err == api.OK && i > 0 {
			_, _, err = done(j, now, tx)
		}
		if err != api.OK {
			t.Errorf("%s: %s not taken: error %d", what, toldTxs(l[i:i+1]), err)
		}
		if risk && Risk(next, now, b, id) {
			t.Errorf("%s: still at risk behind %s", what, toldTxs(l[:i+1]))
		}
	}
}
