package book

import (
	"fmt"
	"maps"
	"slices"
	"strings"
	"sync"
	"testing"

	"truce/api"
	"truce/codes"
	"truce/key"
	"truce/num"
	"truce/rule"
	"truce/seal"
	"truce/state"
)

const top = 1<<64 - 1

// mix is a fixed row of numbers that look mixed: the tests must go alike each time.
func mix(seed *uint64) uint64 {
	*seed += 0x9e3779b97f4a7c15
	z := *seed
	z = (z ^ z>>30) * 0xbf58476d1ce4e5b9
	z = (z ^ z>>27) * 0x94d049bb133111eb
	return z ^ z>>31
}

func below(seed *uint64, n int) int { return int(mix(seed) % uint64(n)) }

func rep(b byte, n int) string { return strings.Repeat(string([]byte{b}), n) }

// keyOf is the key of a channel's participant; stranger is who is none.
func keyOf(part int) api.U { return key.Small(uint64(10 + part)) }

const stranger = 90

func whoOf(t testing.TB, part int) string {
	t.Helper()
	who, err := key.Who(keyOf(part))
	if err != api.OK {
		t.Fatalf("no key: %d", part)
	}
	return who
}

// Codes of rules.
const (
	yes = "PUSH1 01 PUSH0 MSTORE PUSH1 20 PUSH0 RETURN"
	no  = "PUSH0 PUSH0 MSTORE PUSH1 20 PUSH0 RETURN"
)

// channel is a fit one of n participants, with a rule that says this.
func channel(t testing.TB, n int, says string) api.Fixed {
	t.Helper()
	app, at, err := codes.Assemble(says)
	if err != api.OK {
		t.Fatalf("no code: %q at %d", says, at)
	}
	f := api.Fixed{Time: 9, Nonce: 3, App: app}
	for i := range n {
		f.Parts = append(f.Parts, whoOf(t, i))
	}
	return f
}

// numbered is one of some channels that are unlike by their number alone.
func numbered(t testing.TB, n int, nonce uint64) api.Fixed {
	t.Helper()
	f := channel(t, n, yes)
	f.Nonce = nonce
	return f
}

func exits(amounts ...uint64) []api.Exit {
	e := api.Exit{Asset: rep(7, 20)}
	for _, n := range amounts {
		e.Allocs = append(e.Allocs, api.Alloc{Dest: rep(1, 32), Amount: api.U{n}})
	}
	return []api.Exit{e}
}

// at is a state of a turn, with some money; other is another one of that turn.
func at(turn uint64) api.Var { return api.Var{Turn: turn, Data: "d", Exits: exits(5, 6)} }

func other(turn uint64) api.Var { return api.Var{Turn: turn, Data: "e", Exits: exits(5, 6)} }

// rich is a state that follows none of at's, since it has another total.
func rich(turn uint64) api.Var { return api.Var{Turn: turn, Data: "d", Exits: exits(5, 7)} }

// seals has each seal that a test has made, since they are dear to make.
var seals sync.Map

// sealOf is a participant's seal of a state.
func sealOf(t testing.TB, f api.Fixed, v api.Var, part int) api.Seal {
	t.Helper()
	digest := state.Digest(f, v)
	name := fmt.Sprint(digest, part)
	if s, ok := seals.Load(name); ok {
		return s.(api.Seal)
	}
	s, err := seal.Make(digest, keyOf(part))
	if err != api.OK {
		t.Fatalf("no seal: %d", err)
	}
	seals.Store(name, s)
	return s
}

// Entries of each kind.

func enKey(part int) api.Entry { return api.Entry{Kind: api.EnKey, Key: keyOf(part)} }

func enChan(f api.Fixed) api.Entry { return api.Entry{Kind: api.EnChan, Fixed: f} }

func enMine(t testing.TB, f api.Fixed, v api.Var, part int) api.Entry {
	t.Helper()
	return api.Entry{Kind: api.EnMine, Channel: state.Id(f), Var: v, Seal: sealOf(t, f, v, part)}
}

func enSeen(t testing.TB, f api.Fixed, v api.Var, part int) api.Entry {
	t.Helper()
	return api.Entry{Kind: api.EnSeen, Channel: state.Id(f), Var: v, Who: part, Seal: sealOf(t, f, v, part)}
}

func enGoal(f api.Fixed, goal int) api.Entry {
	return api.Entry{Kind: api.EnGoal, Channel: state.Id(f), Goal: goal}
}

// enSealed is EnMine of a participant of its own, EnSeen of the others.
func enSealed(t testing.TB, f api.Fixed, v api.Var, me, part int) api.Entry {
	t.Helper()
	if part == me {
		return enMine(t, f, v, part)
	}
	return enSeen(t, f, v, part)
}

// bookOf is what Apply tells of entries that are all taken.
func bookOf(t testing.TB, l ...api.Entry) api.Book {
	t.Helper()
	return takes(t, api.Book{}, l...)
}

// takes is a book behind entries that it must take.
func takes(t testing.TB, b api.Book, l ...api.Entry) api.Book {
	t.Helper()
	for i, e := range l {
		next, err := Apply(b, e)
		if err != api.OK {
			t.Fatalf("entry %d, kind %d, turn %d: error %d", i, e.Kind, e.Var.Turn, err)
		}
		b = next
	}
	return b
}

// refuses fails the test unless a book does not take an entry, with this error, and stays as it was.
func refuses(t testing.TB, what string, b api.Book, e api.Entry, want api.Errno) {
	t.Helper()
	before := spelled(b)
	got, err := Apply(b, e)
	if err != want {
		t.Errorf("%s: error %d, want %d", what, err, want)
	}
	if spelled(got) != before || spelled(b) != before || !Same(got, b) {
		t.Errorf("%s: the book is %s, was %s", what, told(got), told(b))
	}
}

// spelled spells out a book, an entry, or what there is: unlike ones are unlike.
func spelled(a any) string { return fmt.Sprintf("%+v", a) }

// told is a book in words of a bearable length.
func told(b api.Book) string {
	out := fmt.Sprintf("%.4x, %d channels", b.Who, len(b.Chans))
	for _, c := range b.Chans {
		out += "; " + toldChan(c)
	}
	return out
}

// toldChan is a channel in words; of each kept state its turn, its data, and who signed it.
func toldChan(c api.Chan) string {
	out := fmt.Sprintf("%.4x me %d mine %d goal %d kept", c.Id, c.Me, c.Mine, c.Goal)
	for _, k := range c.Kept {
		out += fmt.Sprintf(" %d%.2q", k.Var.Turn, k.Var.Data)
		for part, has := range k.Has {
			if has {
				out += fmt.Sprint("+", part)
			}
		}
	}
	return out
}

// turnsOf are the turns that are kept of a book's channel at a place.
func turnsOf(b api.Book, place int) []uint64 {
	var out []uint64
	for _, k := range b.Chans[place].Kept {
		out = append(out, k.Var.Turn)
	}
	return out
}

// plainFit is what the chapter says of a fit entry.
func plainFit(e api.Entry) bool {
	zero := map[string]bool{
		"Key": e.Key == api.U{}, "Channel": e.Channel == "", "Who": e.Who == 0, "Seal": e.Seal == api.Seal{}, "Goal": e.Goal == 0,
		"Fixed": len(e.Fixed.Parts) == 0 && e.Fixed.Nonce == 0 && e.Fixed.App == "" && e.Fixed.Time == 0,
		"Var":   e.Var.Turn == 0 && !e.Var.Final && e.Var.Data == "" && len(e.Var.Exits) == 0,
	}
	named := len(e.Channel) == 32
	stated := named && state.FitVar(e.Var)
	kinds := map[int]struct {
		fields string
		ok     bool
	}{
		1: {"Key", key.Fit(e.Key)}, 2: {"Fixed", state.FitFixed(e.Fixed)}, 3: {"Channel Var Seal", stated},
		4: {"Channel Var Seal Who", stated && e.Who >= 0 && e.Who <= 3}, 5: {"Channel Goal", named && (e.Goal == 0 || e.Goal == 1)},
	}
	kind, known := kinds[e.Kind]
	for field, isZero := range zero {
		if !isZero && !slices.Contains(strings.Fields(kind.fields), field) {
			return false
		}
	}
	return known && kind.ok
}

// plainWrite is an entry's bytes, laid word by word; it does not ask whether it is fit.
func plainWrite(e api.Entry) string {
	fixed, stated, sealed := state.WriteFixed(e.Fixed), "", ""
	if e.Kind == 3 || e.Kind == 4 {
		stated, sealed = state.Write(e.Var), seal.Write(e.Seal)
	}
	return laid(uint64(e.Kind), e.Key, fixed, rep(0, 32-len(e.Channel))+e.Channel, stated, uint64(e.Who), sealed, uint64(e.Goal))
}

func word32(n uint64) string { return num.Bytes(num.Of(n)) }

// laid lays eight words, and the three texts behind them.
func laid(kind uint64, own api.U, fixed, channel, stated string, who uint64, sealed string, goal uint64) string {
	tail := func(s string) string { return word32(uint64(len(s))) + s + rep(0, (32-len(s)%32)%32) }
	first := uint64(8 * 32)
	second := first + uint64(len(tail(fixed)))
	third := second + uint64(len(tail(stated)))
	return word32(kind) + num.Bytes(own) + word32(first) + channel + word32(second) + word32(who) + word32(third) + word32(goal) +
		tail(fixed) + tail(stated) + tail(sealed)
}

// plainChan is a channel as the chapter tells of it: kept states by their turns, seals by their participants.
type plainChan struct {
	f    api.Fixed
	me   int
	vars map[uint64]api.Var
	has  map[uint64]map[int]api.Seal
	mine uint64
	goal int
}

type plainBook struct {
	own   api.U
	who   string
	chans []*plainChan
}

// book is the plain book as the program tells it.
func (b *plainBook) book() api.Book {
	out := api.Book{Key: b.own, Who: b.who}
	for _, c := range b.chans {
		one := api.Chan{Fixed: c.f, Id: state.Id(c.f), Me: c.me, Mine: c.mine, Goal: c.goal}
		for _, turn := range slices.Sorted(maps.Keys(c.vars)) {
			k := api.Kept{Var: c.vars[turn]}
			for part := range c.f.Parts {
				s, has := c.has[turn][part]
				k.Has, k.Seals = append(k.Has, has), append(k.Seals, s)
			}
			one.Kept = append(one.Kept, k)
		}
		out.Chans = append(out.Chans, one)
	}
	return out
}

// apply is P24.2, in the order of its words.
func (b *plainBook) apply(e api.Entry) api.Errno {
	if !plainFit(e) {
		return api.ErrForm
	}
	if e.Kind == api.EnKey {
		if b.who != "" {
			return api.ErrThere
		}
		b.own = e.Key
		b.who, _ = key.Who(e.Key)
		return api.OK
	}
	if b.who == "" {
		return api.ErrState
	}
	if e.Kind == api.EnChan {
		return b.open(e.Fixed)
	}
	for _, c := range b.chans {
		if state.Id(c.f) == e.Channel {
			return c.apply(b.who, e)
		}
	}
	return api.ErrNone
}

func (b *plainBook) open(f api.Fixed) api.Errno {
	me := slices.Index(f.Parts, b.who)
	if me < 0 {
		return api.ErrKey
	}
	for _, c := range b.chans {
		if state.Id(c.f) == state.Id(f) {
			return api.ErrThere
		}
	}
	if len(b.chans) == 8 {
		return api.ErrMany
	}
	b.chans = append(b.chans, &plainChan{f: f, me: me, vars: map[uint64]api.Var{}, has: map[uint64]map[int]api.Seal{}})
	return api.OK
}

func (c *plainChan) apply(who string, e api.Entry) api.Errno {
	by, _ := seal.Who(state.Digest(c.f, e.Var), e.Seal)
	switch e.Kind {
	case api.EnMine:
		if e.Var.Turn < c.mine {
			return api.ErrTurn
		}
		if by != who {
			return api.ErrSeal
		}
		err := c.put(e.Var, c.me, e.Seal)
		if err == api.OK {
			c.mine = e.Var.Turn + 1
		}
		return err
	case api.EnSeen:
		if e.Who == c.me || e.Who >= len(c.f.Parts) {
			return api.ErrKey
		}
		if by != c.f.Parts[e.Who] {
			return api.ErrSeal
		}
		return c.put(e.Var, e.Who, e.Seal)
	}
	c.goal = e.Goal
	return api.OK
}

// put puts a state in, and lets others go.
func (c *plainChan) put(v api.Var, part int, s api.Seal) api.Errno {
	kept, there := c.vars[v.Turn]
	_, has := c.has[v.Turn][part]
	switch {
	case there && (state.Write(kept) != state.Write(v) || has):
		return api.ErrThere
	case there:
		c.has[v.Turn][part] = s
	case len(c.vars) == 8:
		return api.ErrMany
	default:
		c.vars[v.Turn], c.has[v.Turn] = v, map[int]api.Seal{part: s}
	}
	row := c.best()
	for _, turn := range slices.Sorted(maps.Keys(c.vars)) {
		if len(row) > 0 && turn+uint64(len(c.f.Parts)) < row[len(row)-1] {
			delete(c.vars, turn)
			delete(c.has, turn)
		}
	}
	return api.OK
}

// best are the turns of what supports the newest state, by the chapter's words.
func (c *plainChan) best() []uint64 {
	turns := slices.Sorted(maps.Keys(c.vars))
	slices.Reverse(turns)
	for _, last := range turns {
		for m := 1; m <= len(c.f.Parts) && uint64(m) <= last+1; m++ {
			if row := c.last(m, last); c.supports(row) {
				return row
			}
		}
	}
	return nil
}

// last are m turns up to one.
func (c *plainChan) last(m int, last uint64) []uint64 {
	var out []uint64
	for i := range m {
		out = append(out, last-uint64(m-1-i))
	}
	return out
}

// supports tells whether the states of these turns are all kept and support the last one.
func (c *plainChan) supports(row []uint64) bool {
	for i, turn := range row {
		if _, kept := c.vars[turn]; !kept {
			return false
		}
		if i > 0 && rule.Follows(c.f, c.vars[row[i-1]], c.vars[turn]) != api.OK {
			return false
		}
	}
	for part := range c.f.Parts {
		if !c.isProven(row, part) {
			return false
		}
	}
	return true
}

// isProven tells whether a participant's seal is on a state of a row that asks for it.
func (c *plainChan) isProven(row []uint64, part int) bool {
	asking := row
	for i, turn := range row {
		if len(row) > 1 && int(turn%uint64(len(c.f.Parts))) == part {
			asking = row[i:]
		}
	}
	for _, turn := range asking {
		if _, has := c.has[turn][part]; has {
			return true
		}
	}
	return false
}

// signedOf is what Best tells of these turns.
func (c *plainChan) signedOf(row []uint64) []api.Signed {
	var out []api.Signed
	for _, turn := range row {
		s := api.Signed{Var: c.vars[turn]}
		for _, part := range slices.Sorted(maps.Keys(c.has[turn])) {
			s.Seals = append(s.Seals, c.has[turn][part])
		}
		out = append(out, s)
	}
	return out
}
