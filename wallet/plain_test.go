package wallet

import (
	"fmt"
	"slices"
	"strings"
	"sync"
	"testing"

	"truce/api"
	"truce/book"
	"truce/call"
	"truce/chain"
	"truce/codes"
	"truce/fund"
	"truce/judge"
	"truce/key"
	"truce/log"
	"truce/mail"
	"truce/seal"
	"truce/state"
	"truce/turn"
	"truce/watch"
)

const top = 1<<64 - 1

// mix is a fixed row of numbers that look mixed: the tests must go alike each time.
func mix(seed *uint64) uint64 {
	*seed += 0x9e3779b97f4a7c15
	z := *seed
	z = (z ^ z>>30) * 0xbf58476d1ce4e5b9
	z = (z ^ z>>27) * 0x94d049bb133111eb
	return z ^ z>>31
}

func below(seed *uint64, n int) int { return int(mix(seed) % uint64(n)) }

func rep(b byte, n int) string { return strings.Repeat(string([]byte{b}), n) }

// keyOf is the key of a channel's participant; stranger is who is none.
func keyOf(part int) api.U { return key.Small(uint64(10 + part)) }

const stranger = 90

func whoOf(t testing.TB, part int) string {
	t.Helper()
	who, err := key.Who(keyOf(part))
	if err != api.OK {
		t.Fatalf("no key: %d", part)
	}
	return who
}

// Codes of rules; bare is none.
const (
	bare = ""
	yes  = "PUSH1 01 PUSH0 MSTORE PUSH1 20 PUSH0 RETURN"
	no   = "PUSH0 PUSH0 MSTORE PUSH1 20 PUSH0 RETURN"
)

// channel is a fit one of n participants, with a rule that says this.
func channel(t testing.TB, n int, says string) api.Fixed {
	t.Helper()
	app, at, err := codes.Assemble(says)
	if err != api.OK {
		t.Fatalf("no code: %q at %d", says, at)
	}
	f := api.Fixed{Time: 9, Nonce: 3, App: app}
	for i := range n {
		f.Parts = append(f.Parts, whoOf(t, i))
	}
	return f
}

// numbered is one of some channels that are unlike by their number alone.
func numbered(t testing.TB, n int, says string, nonce uint64) api.Fixed {
	t.Helper()
	f := channel(t, n, says)
	f.Nonce = nonce
	return f
}

// Assets of tests; fees are paid in that of the fee.
var gold, wool, fee = rep(7, 20), rep(8, 20), rep(0, 20)

// split is an outcome of gold alone: so much for each participant.
func split(t testing.TB, amounts ...uint64) []api.Exit {
	t.Helper()
	e := api.Exit{Asset: gold}
	for part, n := range amounts {
		e.Allocs = append(e.Allocs, api.Alloc{Dest: state.Dest(whoOf(t, part)), Amount: api.U{n}})
	}
	return []api.Exit{e}
}

// at is a state of a turn, with nothing to share; other is another one of that turn.
func at(turn uint64) api.Var { return api.Var{Turn: turn, Data: "d"} }

func other(turn uint64) api.Var { return api.Var{Turn: turn, Data: "e"} }

// with is a state of a turn, with an outcome.
func with(turn uint64, l []api.Exit) api.Var { return api.Var{Turn: turn, Data: "d", Exits: l} }

func final(v api.Var) api.Var {
	v.Final = true
	return v
}

// seals has each seal that a test has made, since they are dear to make.
var seals sync.Map

// sealOf is a participant's seal of a state.
func sealOf(t testing.TB, f api.Fixed, v api.Var, part int) api.Seal {
	t.Helper()
	digest := state.Digest(f, v)
	name := fmt.Sprint(digest, part)
	if s, ok := seals.Load(name); ok {
		return s.(api.Seal)
	}
	s, err := seal.Make(digest, keyOf(part))
	if err != api.OK {
		t.Fatalf("no seal: %d", err)
	}
	seals.Store(name, s)
	return s
}

// mailOf is a state with these participants' seals, on its way.
func mailOf(t testing.TB, f api.Fixed, v api.Var, parts ...int) string {
	t.Helper()
	s := api.Signed{Var: v}
	for _, part := range parts {
		s.Seals = append(s.Seals, sealOf(t, f, v, part))
	}
	raw := mail.Write(api.Mail{Fixed: f, Signed: s})
	if raw == "" {
		t.Fatal("no fit mail")
	}
	return raw
}

// sent is a reply of letters: a state with these participants' seals to all but one.
func sent(t testing.TB, f api.Fixed, me int, v api.Var, parts ...int) api.Reply {
	t.Helper()
	var out api.Reply
	for part := range f.Parts {
		if part != me {
			out.Letters = append(out.Letters, api.Letter{To: whoOf(t, part), Raw: mailOf(t, f, v, parts...)})
		}
	}
	return out
}

// txs are transactions as the one of a key sends them, from a number on.
func txs(t testing.TB, part int, next uint64, l ...api.Tx) []string {
	t.Helper()
	var out []string
	for i, tx := range l {
		tx.Nonce = next + uint64(i)
		raw, err := call.Wrap(tx, keyOf(part))
		if err != api.OK {
			t.Fatalf("not fit: %v", tx)
		}
		out = append(out, raw)
	}
	return out
}

// beside is a reply of an error, and of letters that went ahead.
func beside(err api.Errno, letters ...api.Letter) api.Reply {
	return api.Reply{Letters: letters, Err: err}
}

// Entries of each kind.

func enKey(part int) api.Entry { return api.Entry{Kind: api.EnKey, Key: keyOf(part)} }

func enChan(f api.Fixed) api.Entry { return api.Entry{Kind: api.EnChan, Fixed: f} }

func enMine(t testing.TB, f api.Fixed, v api.Var, part int) api.Entry {
	t.Helper()
	return api.Entry{Kind: api.EnMine, Channel: state.Id(f), Var: v, Seal: sealOf(t, f, v, part)}
}

func enSeen(t testing.TB, f api.Fixed, v api.Var, part int) api.Entry {
	t.Helper()
	return api.Entry{Kind: api.EnSeen, Channel: state.Id(f), Var: v, Who: part, Seal: sealOf(t, f, v, part)}
}

func enExit(f api.Fixed) api.Entry {
	return api.Entry{Kind: api.EnGoal, Channel: state.Id(f), Goal: api.GoalExit}
}

// Acts of each kind.

func acKey(part int) api.Act { return api.Act{Kind: api.AcKey, Key: keyOf(part)} }

func acOpen(f api.Fixed) api.Act { return api.Act{Kind: api.AcOpen, Fixed: f} }

func acMove(f api.Fixed, v api.Var) api.Act {
	return api.Act{Kind: api.AcMove, Channel: state.Id(f), Data: v.Data, Exits: v.Exits, Final: v.Final}
}

func acHear(raw string) api.Act { return api.Act{Kind: api.AcHear, Raw: raw} }

func acLook() api.Act { return api.Act{Kind: api.AcLook} }

func acExit(f api.Fixed) api.Act { return api.Act{Kind: api.AcExit, Channel: state.Id(f)} }

// fresh is a chain at its first moment.
func fresh() api.Chain { return api.Chain{Now: 1} }

// recordOf is an entry's record.
func recordOf(t testing.TB, e api.Entry) string {
	t.Helper()
	raw := book.Write(e)
	if raw == "" {
		t.Fatalf("kind %d: not fit", e.Kind)
	}
	return log.Frame(raw)
}

// noted is a wallet behind entries that it must take: they last, one behind the other.
func noted(t testing.TB, w api.Wallet, l ...api.Entry) api.Wallet {
	t.Helper()
	for i, e := range l {
		b, err := book.Apply(w.Book, e)
		if err != api.OK {
			t.Fatalf("entry %d, kind %d, turn %d: error %d", i, e.Kind, e.Var.Turn, err)
		}
		record := recordOf(t, e)
		w.Book = b
		w.Disk.Data += record
		if w.Disk.Fuse >= 0 {
			w.Disk.Fuse -= len(record)
		}
	}
	return w
}

// walletOf is a participant's wallet with some channels.
func walletOf(t testing.TB, me int, l ...api.Fixed) api.Wallet {
	t.Helper()
	w := noted(t, api.Wallet{Disk: api.Disk{Fuse: -1}}, enKey(me))
	for _, f := range l {
		w = noted(t, w, enChan(f))
	}
	return w
}

// holds is a wallet behind a state with these participants' seals.
func holds(t testing.TB, w api.Wallet, f api.Fixed, v api.Var, parts ...int) api.Wallet {
	t.Helper()
	for _, part := range parts {
		if f.Parts[part] == w.Book.Who {
			w = noted(t, w, enMine(t, f, v, part))
		} else {
			w = noted(t, w, enSeen(t, f, v, part))
		}
	}
	return w
}

// sealed is a wallet behind a state that all have signed.
func sealed(t testing.TB, w api.Wallet, f api.Fixed, v api.Var) api.Wallet {
	t.Helper()
	for part := range f.Parts {
		w = holds(t, w, f, v, part)
	}
	return w
}

// lays is a chain on which so much more gold is held for a channel.
func lays(t testing.TB, c api.Chain, f api.Fixed, n uint64) api.Chain {
	t.Helper()
	j, err := judge.Deposit(c.Judge, state.Id(f), gold, judge.Held(c.Judge, state.Id(f), gold), api.U{n})
	if err != api.OK {
		t.Fatalf("not laid down: error %d", err)
	}
	c.Judge = j
	return c
}

// challenged is a chain on which a channel is challenged by a state of all.
func challenged(t testing.TB, c api.Chain, f api.Fixed, v api.Var) api.Chain {
	t.Helper()
	s := api.Signed{Var: v}
	for part := range f.Parts {
		s.Seals = append(s.Seals, sealOf(t, f, v, part))
	}
	j, err := judge.Challenge(c.Judge, c.Now, f, []api.Signed{s})
	if err != api.OK {
		t.Fatalf("not challenged: error %d", err)
	}
	c.Judge = j
	return c
}

// armed is a wallet whose power fails behind n bytes.
func armed(w api.Wallet, n int) api.Wallet {
	w.Disk.Fuse = n
	return w
}

// off is a wallet whose power failed when so much of what it wrote was written.
func off(w api.Wallet, tail string) api.Wallet {
	w.Disk.Tail, w.Disk.Fuse, w.Disk.Off = tail, 0, true
	return w
}

// spelled spells out what there is: unlike ones are unlike. An empty list is none.
func spelled(a any) string { return fmt.Sprintf("%+v", a) }

// told is a wallet in words of a bearable length.
func told(w api.Wallet) string {
	out := fmt.Sprintf("%.4x, device of %d and %d fuse %d off %t", w.Book.Who, len(w.Disk.Data), len(w.Disk.Tail), w.Disk.Fuse, w.Disk.Off)
	for _, c := range w.Book.Chans {
		out += fmt.Sprintf("; %.4x me %d mine %d goal %d kept", c.Id, c.Me, c.Mine, c.Goal)
		for _, k := range c.Kept {
			out += " " + toldSigned(k.Var, k.Has)
		}
	}
	return out
}

// toldSigned is a state's turn, its data, and who signed it.
func toldSigned(v api.Var, has []bool) string {
	out := fmt.Sprintf("%d%.2q", v.Turn, v.Data)
	for part, ok := range has {
		if ok {
			out += fmt.Sprint("+", part)
		}
	}
	return out
}

// toldReply is a reply in words.
func toldReply(r api.Reply) string {
	out := fmt.Sprintf("error %d; %d letters", r.Err, len(r.Letters))
	for _, l := range r.Letters {
		m, err := mail.Read(l.Raw)
		out += fmt.Sprintf(", to %.4x turn %d by %d (%d)", l.To, m.Signed.Var.Turn, len(m.Signed.Seals), err)
	}
	out += fmt.Sprintf("; %d txs", len(r.Txs))
	for _, raw := range r.Txs {
		tx, who, err := call.Open(raw)
		out += fmt.Sprintf(", kind %d nonce %d by %.4x (%d)", tx.Kind, tx.Nonce, who, err)
	}
	return out
}

// What the chapter says, in the order of its words.

type plainWorker struct {
	w api.Wallet
	r api.Reply
}

// plainStep is P29.2.
func plainStep(w api.Wallet, a api.Act, c api.Chain) (api.Wallet, api.Reply) {
	p := plainWorker{w: w}
	p.r.Err = p.act(a, c)
	return p.w, p.r
}

// noted is 'An entry is noted'; what is written on a device is chapter 22's.
func (p *plainWorker) noted(e api.Entry) api.Errno {
	b, err := book.Apply(p.w.Book, e)
	if err != api.OK {
		return err
	}
	record, d := log.Frame(book.Write(e)), &p.w.Disk
	switch {
	case len(d.Data)+len(d.Tail)+len(record) > 131072:
		return api.ErrRange
	case d.Fuse >= 0 && d.Fuse < len(record):
		d.Tail += record[:d.Fuse]
		d.Fuse, d.Off = 0, true
		return api.ErrPower
	case d.Fuse >= 0:
		d.Fuse -= len(record)
	}
	d.Data, d.Tail = d.Data+d.Tail+record, ""
	p.w.Book = b
	return api.OK
}

// notedAndSent is 'A state of its own is noted, and then sent'.
func (p *plainWorker) notedAndSent(e api.Entry) api.Errno {
	if err := p.noted(e); err != api.OK {
		return err
	}
	for _, c := range p.w.Book.Chans {
		if c.Id != e.Channel {
			continue
		}
		s := api.Signed{Var: e.Var}
		for _, k := range c.Kept {
			for part := range c.Fixed.Parts {
				if k.Var.Turn == e.Var.Turn && k.Has[part] {
					s.Seals = append(s.Seals, k.Seals[part])
				}
			}
		}
		for _, who := range c.Fixed.Parts {
			if who != p.w.Book.Who {
				p.r.Letters = append(p.r.Letters, api.Letter{To: who, Raw: mail.Write(api.Mail{Fixed: c.Fixed, Signed: s})})
			}
		}
	}
	return api.OK
}

// act is 'An act, up to the first error'.
func (p *plainWorker) act(a api.Act, c api.Chain) api.Errno {
	if p.w.Disk.Off {
		return api.ErrPower
	}
	switch a.Kind {
	case 1:
		return p.noted(api.Entry{Kind: 1, Key: a.Key})
	case 2:
		return p.noted(api.Entry{Kind: 2, Fixed: a.Fixed})
	case 6:
		return p.noted(api.Entry{Kind: 5, Channel: a.Channel, Goal: 1})
	case 3:
		e, err := turn.Propose(p.w.Book, a.Channel, a.Data, a.Exits, a.Final)
		if err != api.OK {
			return err
		}
		return p.notedAndSent(e)
	case 4:
		return p.hear(a.Raw)
	case 5:
		return p.look(c)
	}
	return api.ErrForm
}

func (p *plainWorker) hear(raw string) api.Errno {
	m, err := mail.Read(raw)
	if err != api.OK {
		return err
	}
	l, err := turn.Accept(p.w.Book, state.Id(m.Fixed), m.Signed)
	if err != api.OK {
		return err
	}
	for _, e := range l {
		if err := p.noted(e); err != api.OK {
			return err
		}
	}
	e, err := turn.Answer(p.w.Book, state.Id(m.Fixed))
	if err != api.OK {
		return api.OK
	}
	return p.notedAndSent(e)
}

func (p *plainWorker) look(c api.Chain) api.Errno {
	var l []api.Tx
	var ids []string
	for _, of := range p.w.Book.Chans {
		ids = append(ids, of.Id)
	}
	for _, id := range ids {
		l = append(l, fund.Deposits(c.Judge, p.w.Book, id)...)
		if e, err := fund.Ready(c.Judge, p.w.Book, id); err == api.OK {
			if err := p.notedAndSent(e); err != api.OK {
				return err
			}
		}
		l = append(l, watch.Moves(c.Judge, c.Now, p.w.Book, id)...)
	}
	var raws []string
	n := chain.Next(c, p.w.Book.Who)
	for _, tx := range l {
		tx.Nonce = n
		raw, err := call.Wrap(tx, p.w.Book.Key)
		if err != api.OK {
			return err
		}
		raws = append(raws, raw)
		n++
	}
	p.r.Txs = raws
	return api.OK
}

// wantStep fails the test unless a wallet is this behind an act, and sends this, by the test's word and by the chapter's.
func wantStep(t testing.TB, what string, w api.Wallet, a api.Act, c api.Chain, want api.Wallet, wantReply api.Reply) {
	t.Helper()
	before := spelled(w) + spelled(a) + spelled(c)
	got, r := Step(w, a, c)
	if spelled(w)+spelled(a)+spelled(c) != before {
		t.Errorf("%s: what was given was changed", what)
	}
	if spelled(got) != spelled(want) {
		t.Errorf("%s: %s\nwant %s", what, told(got), told(want))
	}
	if spelled(r) != spelled(wantReply) {
		t.Errorf("%s: %s\nwant %s", what, toldReply(r), toldReply(wantReply))
	}
	said, saidReply := plainStep(w, a, c)
	if spelled(said) != spelled(want) || spelled(saidReply) != spelled(wantReply) {
		t.Errorf("%s: the chapter's words say %s, %s", what, told(said), toldReply(saidReply))
	}
	wantLasting(t, what, got)
	wantRead(t, what, got, r)
}

// refuses fails the test unless an act has this error, and nothing else comes of it.
func refuses(t testing.TB, what string, w api.Wallet, a api.Act, c api.Chain, err api.Errno) {
	t.Helper()
	wantStep(t, what, w, a, c, w, beside(err))
}

// replays has the book of each device's bytes that a test has asked for, since seals are dear to look at.
var replays sync.Map

// wantLasting fails the test unless a wallet's book is that of what lasts. P29.4.
func wantLasting(t testing.TB, what string, w api.Wallet) {
	t.Helper()
	of, ok := replays.Load(w.Disk.Data)
	if !ok {
		of = book.Replay(w.Disk.Data)
		replays.Store(w.Disk.Data, of)
	}
	if !book.Same(of.(api.Book), w.Book) {
		t.Errorf("%s: what lasts is not the book: %s", what, told(w))
	}
}

// wantRead fails the test unless all that a wallet sends is read, has its own seal, and lasts. P29.4, P29.6.
func wantRead(t testing.TB, what string, w api.Wallet, r api.Reply) {
	t.Helper()
	for i, l := range r.Letters {
		m, err := mail.Read(l.Raw)
		if err != api.OK || !slices.Contains(m.Fixed.Parts, l.To) || l.To == w.Book.Who {
			t.Errorf("%s, letter %d to %.4x: error %d", what, i, l.To, err)
		}
		at := slices.IndexFunc(m.Signed.Seals, func(s api.Seal) bool {
			who, err := seal.Who(state.Digest(m.Fixed, m.Signed.Var), s)
			return err == api.OK && who == w.Book.Who
		})
		if at < 0 {
			t.Errorf("%s, letter %d: without its own seal", what, i)
			continue
		}
		e := api.Entry{Kind: api.EnMine, Channel: state.Id(m.Fixed), Var: m.Signed.Var, Seal: m.Signed.Seals[at]}
		if !strings.Contains(w.Disk.Data, recordOf(t, e)) {
			t.Errorf("%s, letter %d: turn %d does not last", what, i, m.Signed.Var.Turn)
		}
	}
	for i, raw := range r.Txs {
		if _, who, err := call.Open(raw); err != api.OK || who != w.Book.Who {
			t.Errorf("%s, transaction %d by %.4x: error %d", what, i, who, err)
		}
	}
}
