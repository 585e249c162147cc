package book

import (
	"fmt"
	"slices"
	"testing"

	"truce/api"
	"truce/key"
	"truce/log"
	"truce/proof"
	"truce/seal"
	"truce/state"
)

// wantTurns fails the test unless these turns are kept of a book's first channel.
func wantTurns(t testing.TB, what string, b api.Book, want ...uint64) {
	t.Helper()
	if got := turnsOf(b, 0); !slices.Equal(got, want) {
		t.Errorf("%s: kept %v, want %v", what, got, want)
	}
}

// wantBest fails the test unless Best of a book's first channel tells states of these turns.
func wantBest(t testing.TB, what string, b api.Book, want ...uint64) {
	t.Helper()
	var got []uint64
	for _, s := range Best(b.Chans[0]) {
		got = append(got, s.Var.Turn)
	}
	if !slices.Equal(got, want) {
		t.Errorf("%s: best %v, want %v", what, got, want)
	}
}

// opened is a participant's book with a channel.
func opened(t testing.TB, f api.Fixed, me int) api.Book {
	t.Helper()
	return bookOf(t, enKey(me), enChan(f))
}

// The chapter's example.
func TestExample(t *testing.T) {
	f := channel(t, 2, yes)
	v := api.Var{Data: "d"}
	b := takes(t, opened(t, f, 0), enMine(t, f, v, 0), enSeen(t, f, v, 1))
	want := []api.Signed{{Var: v, Seals: []api.Seal{sealOf(t, f, v, 0), sealOf(t, f, v, 1)}}}
	if got := Best(b.Chans[0]); !proof.Same(got, want) {
		t.Errorf("Best is %v", got)
	}
	refuses(t, "another of turn 0", b, enMine(t, f, api.Var{}, 0), api.ErrTurn)
	refuses(t, "the same once more", b, enMine(t, f, v, 0), api.ErrTurn)
}

// P24.2: a key begins a book, once.
func TestApplyKey(t *testing.T) {
	b := bookOf(t, enKey(0))
	if want := (api.Book{Key: keyOf(0), Who: whoOf(t, 0)}); spelled(b) != spelled(want) {
		t.Errorf("got %s", told(b))
	}
	refuses(t, "the same key", b, enKey(0), api.ErrThere)
	refuses(t, "another key", b, enKey(1), api.ErrThere)
	refuses(t, "a key that is none", b, api.Entry{Kind: api.EnKey}, api.ErrForm)
	refuses(t, "a key that is none, at first", api.Book{}, api.Entry{Kind: api.EnKey}, api.ErrForm)
	one, err := Apply(api.Book{}, api.Entry{Kind: api.EnKey, Key: api.U{1}})
	if err != api.OK || fmt.Sprintf("%x", one.Who) != "7e5f4552091a69125d5dfcb7b8c2659029395bdf" {
		t.Errorf("the key 1: %x, error %d", one.Who, err)
	}
}

// P24.2: nothing but a key is taken ahead of a key.
func TestApplyNoKey(t *testing.T) {
	f := channel(t, 2, yes)
	for _, e := range []api.Entry{enChan(f), enMine(t, f, at(4), 0), enSeen(t, f, at(4), 1), enGoal(f, 1)} {
		refuses(t, fmt.Sprint("kind ", e.Kind), api.Book{}, e, api.ErrState)
		e.Kind = 9
		refuses(t, "no kind", api.Book{}, e, api.ErrForm)
	}
}

// P24.2: a channel is taken in behind the others, with nothing kept.
func TestApplyChan(t *testing.T) {
	for me := range 4 {
		var want []api.Chan
		b := bookOf(t, enKey(me))
		for n := range uint64(8) {
			f := numbered(t, 4, 9-n)
			b = takes(t, b, enChan(f))
			want = append(want, api.Chan{Fixed: f, Id: state.Id(f), Me: me})
		}
		if spelled(b.Chans) != spelled(want) || b.Who != whoOf(t, me) || b.Key != keyOf(me) {
			t.Errorf("got %s", told(b))
		}
	}
}

// P24.2: no channel of others, none twice, and no more than 8, in this order.
func TestApplyChanErrors(t *testing.T) {
	b := bookOf(t, enKey(0))
	others := channel(t, 3, yes)
	others.Parts[0] = whoOf(t, stranger)
	refuses(t, "a channel of others", b, enChan(others), api.ErrKey)
	for n := range uint64(8) {
		f := numbered(t, 2, n)
		b = takes(t, b, enChan(f))
		refuses(t, "the same", b, enChan(f), api.ErrThere)
		refuses(t, "a channel of others", b, enChan(others), api.ErrKey)
	}
	refuses(t, "a ninth", b, enChan(numbered(t, 2, 8)), api.ErrMany)
	refuses(t, "a ninth with another rule", b, enChan(channel(t, 2, no)), api.ErrMany)
	refuses(t, "the first once more", b, enChan(numbered(t, 2, 0)), api.ErrThere)
	refuses(t, "the last once more", b, enChan(numbered(t, 2, 7)), api.ErrThere)
	refuses(t, "a ninth of others", b, enChan(others), api.ErrKey)
	refuses(t, "one that is not fit", b, api.Entry{Kind: api.EnChan}, api.ErrForm)
}

// P24.2: what is unlike in one thing alone is another channel.
func TestApplyChanUnlike(t *testing.T) {
	f := channel(t, 3, yes)
	b := opened(t, f, 1)
	number, app, time, turned := f, f, f, f
	number.Nonce++
	app.App += "\x00"
	time.Time++
	turned.Parts = []string{f.Parts[1], f.Parts[0], f.Parts[2]}
	for i, g := range []api.Fixed{number, app, time, turned} {
		b = takes(t, b, enChan(g))
		if len(b.Chans) != 2+i || b.Chans[1+i].Id != state.Id(g) || b.Chans[1+i].Me != slices.Index(g.Parts, whoOf(t, 1)) {
			t.Errorf("%d: %s", i, told(b))
		}
	}
}

// P24.2: goals of a channel, of no other one.
func TestApplyGoal(t *testing.T) {
	f, g := numbered(t, 2, 1), numbered(t, 2, 2)
	b := bookOf(t, enKey(0), enChan(f), enChan(g))
	for _, goals := range [][2]int{{0, 1}, {1, 1}, {1, 1}, {1, 0}, {0, 0}} {
		b = takes(t, b, enGoal(f, goals[0]), enGoal(g, goals[1]))
		if b.Chans[0].Goal != goals[0] || b.Chans[1].Goal != goals[1] {
			t.Errorf("goals %v: %s", goals, told(b))
		}
	}
	refuses(t, "no such channel", b, enGoal(numbered(t, 2, 3), 1), api.ErrNone)
	refuses(t, "goal 2", b, enGoal(f, 2), api.ErrForm)
	refuses(t, "goal -1", b, enGoal(f, -1), api.ErrForm)
}

// P24.2: the errors of the wallet's own states, in order.
func TestApplyMineErrors(t *testing.T) {
	f := channel(t, 2, yes)
	b := opened(t, f, 0)
	with := func(v api.Var, by int) api.Entry {
		e := enMine(t, f, v, 0)
		e.Seal = sealOf(t, f, v, by)
		return e
	}
	refuses(t, "not fit", b, api.Entry{Kind: api.EnMine, Channel: state.Id(f), Var: api.Var{Turn: top}}, api.ErrForm)
	refuses(t, "no such channel", b, enMine(t, numbered(t, 2, 9), at(4), 0), api.ErrNone)
	refuses(t, "the other one's seal", b, with(at(4), 1), api.ErrSeal)
	refuses(t, "a stranger's seal", b, with(at(4), stranger), api.ErrSeal)
	refuses(t, "no seal", b, api.Entry{Kind: api.EnMine, Channel: state.Id(f), Var: at(4)}, api.ErrSeal)
	elsewhere, later := enMine(t, numbered(t, 2, 9), at(4), 0), enMine(t, f, at(5), 0)
	for what, s := range map[string]api.Seal{"another channel's seal": elsewhere.Seal, "another state's seal": later.Seal} {
		refuses(t, what, b, api.Entry{Kind: api.EnMine, Channel: state.Id(f), Var: at(4), Seal: s}, api.ErrSeal)
	}

	b = takes(t, b, enMine(t, f, at(4), 0), enSeen(t, f, at(6), 1))
	for turn := range uint64(5) {
		refuses(t, "a turn below Mine", b, enMine(t, f, at(turn), 0), api.ErrTurn)
		refuses(t, "a turn below Mine, the other one's seal", b, with(at(turn), 1), api.ErrTurn)
	}
	refuses(t, "another of a turn that is kept", b, enMine(t, f, other(6), 0), api.ErrThere)
	refuses(t, "that, with the other one's seal", b, with(other(6), 1), api.ErrSeal)
	b = takes(t, b, enMine(t, f, at(6), 0))
	refuses(t, "the same once more", b, enMine(t, f, at(6), 0), api.ErrTurn)
}

// P24.2: Mine is the turn and 1, whatever lies between; others' states do not change it.
func TestApplyMine(t *testing.T) {
	f := channel(t, 2, yes)
	b := opened(t, f, 0)
	for _, turn := range []uint64{0, 1, 5, 6, 100, api.MaxTurn - 1, api.MaxTurn} {
		b = takes(t, b, enMine(t, f, at(turn), 0))
		if c := b.Chans[0]; c.Mine != turn+1 || c.Goal != 0 || c.Me != 0 {
			t.Errorf("turn %d: %s", turn, told(b))
		}
		refuses(t, "the same turn", b, enMine(t, f, other(turn), 0), api.ErrTurn)
	}
	mine := b.Chans[0].Mine
	if b = takes(t, b, enSeen(t, f, at(7), 1)); b.Chans[0].Mine != mine {
		t.Errorf("mine %d behind another one's state", b.Chans[0].Mine)
	}
}

// P24.2: the errors of another one's states, in order.
func TestApplySeenErrors(t *testing.T) {
	f := channel(t, 3, yes)
	b := opened(t, f, 1)
	with := func(v api.Var, part, by int) api.Entry {
		e := enSeen(t, f, v, 0)
		e.Who, e.Seal = part, sealOf(t, f, v, by)
		return e
	}
	refuses(t, "not fit", b, api.Entry{Kind: api.EnSeen, Channel: state.Id(f), Var: api.Var{Turn: top}}, api.ErrForm)
	refuses(t, "the place 4", b, with(at(6), 4, 0), api.ErrForm)
	refuses(t, "no such channel", b, enSeen(t, numbered(t, 3, 9), at(6), 0), api.ErrNone)
	refuses(t, "Me", b, with(at(6), 1, 1), api.ErrKey)
	refuses(t, "Me, by another one", b, with(at(6), 1, 2), api.ErrKey)
	refuses(t, "no participant's place", b, with(at(6), 3, 0), api.ErrKey)
	refuses(t, "no participant's place, by who would be it", b, with(at(6), 3, 3), api.ErrKey)
	for _, by := range []int{1, 2, stranger} {
		refuses(t, fmt.Sprint("by ", by), b, with(at(6), 0, by), api.ErrSeal)
	}
	refuses(t, "no seal", b, api.Entry{Kind: api.EnSeen, Channel: state.Id(f), Var: at(6)}, api.ErrSeal)
	e := with(at(6), 0, 0)
	e.Var.Final = true
	refuses(t, "another state's seal", b, e, api.ErrSeal)

	b = takes(t, b, with(at(6), 0, 0))
	refuses(t, "the same once more", b, with(at(6), 0, 0), api.ErrThere)
	refuses(t, "another of its turn", b, with(other(6), 0, 0), api.ErrThere)
	refuses(t, "another of its turn, by another one", b, with(other(6), 2, 2), api.ErrThere)
	refuses(t, "that, by a stranger", b, with(other(6), 2, stranger), api.ErrSeal)
	refuses(t, "that, of the wallet's own", b, enMine(t, f, other(6), 1), api.ErrThere)
	b = takes(t, b, with(at(6), 2, 2), enMine(t, f, at(6), 1))
	refuses(t, "the first once more", b, with(at(6), 0, 0), api.ErrThere)
	refuses(t, "the second once more", b, with(at(6), 2, 2), api.ErrThere)
}

// P24.2: another seal of the same state by the same participant is none more. There can be one with the same R, turned.
func TestApplySealTwice(t *testing.T) {
	f := channel(t, 2, yes)
	b := takes(t, opened(t, f, 0), enSeen(t, f, at(4), 1))
	e := enSeen(t, f, at(4), 1)
	e.Seal.Odd = !e.Seal.Odd
	refuses(t, "a seal that is another one's", b, e, api.ErrSeal)
	e.Seal = api.Seal{}
	refuses(t, "no seal", b, e, api.ErrSeal)
}

// What is kept has one place for each participant, the seals there that came, and stands by its turn, whatever came first.
func TestPut(t *testing.T) {
	f := channel(t, 3, no)
	b := opened(t, f, 1)
	turns := []uint64{10, 7, 20, 0, 15, 8, 30, 9}
	var kept []api.Kept
	for i, turn := range turns {
		part := i % 3
		b = takes(t, b, enSealed(t, f, at(turn), 1, 2*(i%2)))
		has, seals := make([]bool, 3), make([]api.Seal, 3)
		has[2*(i%2)], seals[2*(i%2)] = true, sealOf(t, f, at(turn), 2*(i%2))
		if part == 1 {
			b = takes(t, b, enSealed(t, f, at(turn), 1, 2-2*(i%2)))
			has[2-2*(i%2)], seals[2-2*(i%2)] = true, sealOf(t, f, at(turn), 2-2*(i%2))
		}
		kept = append(kept, api.Kept{Var: at(turn), Has: has, Seals: seals})
	}
	slices.SortFunc(kept, func(a, b api.Kept) int { return int(a.Var.Turn) - int(b.Var.Turn) })
	if spelled(b.Chans[0].Kept) != spelled(kept) {
		t.Errorf("got %s", told(b))
	}
	wantBest(t, "no one's all seals", b)
}

// P24.2: no more than 8 states are kept; seals of those that are kept go on being taken.
func TestPutMany(t *testing.T) {
	f := channel(t, 2, no)
	b := opened(t, f, 0)
	for turn := range uint64(8) {
		b = takes(t, b, enSeen(t, f, rich(3*turn+1), 1))
	}
	for _, turn := range []uint64{0, 2, 23, api.MaxTurn} {
		refuses(t, "a ninth", b, enSeen(t, f, at(turn), 1), api.ErrMany)
		refuses(t, "a ninth of its own", b, enMine(t, f, at(turn), 0), api.ErrMany)
	}
	refuses(t, "another of a turn that is kept", b, enSeen(t, f, at(22), 1), api.ErrThere)
	refuses(t, "the same once more", b, enSeen(t, f, rich(22), 1), api.ErrThere)
	if b.Chans[0].Mine != 0 {
		t.Errorf("mine %d, though nothing was taken", b.Chans[0].Mine)
	}
	b = takes(t, b, enMine(t, f, rich(4), 0))
	wantTurns(t, "a seal more", b, 4, 7, 10, 13, 16, 19, 22)
	b = takes(t, b, enSeen(t, f, at(5), 1))
	refuses(t, "a ninth again", b, enSeen(t, f, at(30), 1), api.ErrMany)
	b = takes(t, b, enMine(t, f, rich(22), 0))
	wantTurns(t, "all seals of the last", b, 22)
}

// P24.2: what is kept of one channel does not count in another one.
func TestPutOther(t *testing.T) {
	f, g := numbered(t, 2, 1), numbered(t, 2, 2)
	b := bookOf(t, enKey(1), enChan(f), enChan(g))
	for turn := range uint64(8) {
		b = takes(t, b, enSeen(t, f, at(10*turn), 0))
	}
	refuses(t, "a ninth", b, enSeen(t, f, at(90), 0), api.ErrMany)
	b = takes(t, b, enSeen(t, g, at(90), 0), enMine(t, g, at(90), 1))
	if c := b.Chans[1]; len(c.Kept) != 1 || c.Mine != 91 || b.Chans[0].Mine != 0 || len(b.Chans[0].Kept) != 8 {
		t.Errorf("got %s", told(b))
	}
}

// What is below the best one by more than there are participants is let go, not what is below by as many.
func TestLetGo(t *testing.T) {
	for n := 2; n <= 4; n++ {
		f := channel(t, n, no)
		b := opened(t, f, 0)
		for _, below := range []uint64{5, 4, 3, 2, 1} {
			b = takes(t, b, enSeen(t, f, at(50-below), 1))
		}
		b = takes(t, b, enSeen(t, f, at(60), 1), enMine(t, f, at(50), 0))
		for part := 1; part < n; part++ {
			wantTurns(t, "without all seals", b, 45, 46, 47, 48, 49, 50, 60)
			b = takes(t, b, enSeen(t, f, at(50), part))
		}
		want := []uint64{46, 47, 48, 49, 50, 60}[4-n:]
		wantTurns(t, fmt.Sprint("of ", n), b, want...)
		wantBest(t, fmt.Sprint("of ", n), b, 50)
		// What comes late is taken, and let go at once.
		b = takes(t, b, enSeen(t, f, at(uint64(49-n)), 1))
		wantTurns(t, "late", b, want...)
		b = takes(t, b, enSeen(t, f, at(0), 1))
		wantTurns(t, "of the turn 0", b, want...)
	}
}

// What the wallet itself signs late is let go, too, but Mine stays.
func TestLetGoMine(t *testing.T) {
	f := channel(t, 3, yes)
	b := opened(t, f, 0)
	b = takes(t, b, enSeen(t, f, at(20), 1), enSeen(t, f, at(20), 2), enMine(t, f, at(10), 0))
	wantTurns(t, "two seals of three", b, 10, 20)
	c := b.Chans[0]
	if c.Mine != 11 {
		t.Errorf("mine %d", c.Mine)
	}
	// Behind a crash the others may know a state that has the wallet's seal, and the wallet may not: it is kept when it comes.
	b = takes(t, b, enMine(t, f, at(20), 0))
	wantTurns(t, "three of three", b, 20)
	refuses(t, "one that was let go", b, enMine(t, f, other(10), 0), api.ErrTurn)
}

// A best one of several states lets go by the last one's turn.
func TestLetGoRow(t *testing.T) {
	f := channel(t, 2, yes)
	b := opened(t, f, 0)
	b = takes(t, b, enMine(t, f, at(4), 0), enSeen(t, f, at(5), 1), enMine(t, f, at(6), 0))
	wantBest(t, "turn by turn", b, 5, 6)
	wantTurns(t, "turn by turn", b, 4, 5, 6)
	b = takes(t, b, enSeen(t, f, at(7), 1))
	wantBest(t, "turn by turn", b, 6, 7)
	wantTurns(t, "turn by turn", b, 5, 6, 7)
}

// P24.3: what Replay tells is what Apply tells of the entries, one by one.
func TestReplay(t *testing.T) {
	f, g := channel(t, 2, yes), numbered(t, 3, 8)
	l := []api.Entry{
		enKey(0), enChan(f), enMine(t, f, at(4), 0), enSeen(t, f, at(4), 1), enChan(g),
		enSeen(t, g, at(9), 2), enGoal(g, 1), enSeen(t, f, at(5), 1), enMine(t, f, at(6), 0), enGoal(f, 1), enGoal(f, 0),
	}
	data := ""
	for i, e := range l {
		data += log.Frame(Write(e))
		if got, want := Replay(data), bookOf(t, l[:i+1]...); spelled(got) != spelled(want) || !Same(got, want) {
			t.Errorf("%d entries: %s, want %s", i+1, told(got), told(want))
		}
	}
	if got := Replay(""); spelled(got) != spelled(api.Book{}) || !Same(got, api.Book{}) {
		t.Errorf("of nothing: %s", told(got))
	}
}

// P24.3: what can't be read, or has an error, is passed over, and what stands behind it is applied.
func TestReplayPassesOver(t *testing.T) {
	f := channel(t, 2, yes)
	l := []api.Entry{enKey(0), enChan(f), enMine(t, f, at(4), 0), enGoal(f, 1)}
	want := bookOf(t, l...)
	foreign := enMine(t, f, at(9), 0)
	foreign.Seal = sealOf(t, f, at(9), 1)
	for what, texts := range map[string][]string{
		"an empty text":      {""},
		"bytes of no entry":  {"abc", rep(0, 256), rep(255, 300), log.Frame(Write(enKey(1)))},
		"a key more":         {Write(enKey(0)), Write(enKey(1))},
		"a state of nobody":  {Write(foreign)},
		"of another channel": {Write(enGoal(numbered(t, 2, 9), 1)), Write(enMine(t, numbered(t, 2, 9), at(4), 0))},
		"an entry that torn": {Write(enGoal(f, 0))[:255]},
		"an unfit one":       {laid(5, api.U{}, "", state.Id(f), "", 0, "", 2)},
	} {
		for place := range len(l) + 1 {
			// Ahead of the key another key would be the book's.
			if place == 0 && what == "a key more" {
				continue
			}
			data := ""
			for i := range len(l) + 1 {
				if i == place {
					for _, s := range texts {
						data += log.Frame(s)
					}
				}
				if i < len(l) {
					data += log.Frame(Write(l[i]))
				}
			}
			if got := Replay(data); spelled(got) != spelled(want) {
				t.Errorf("%s at %d: %s, want %s", what, place, told(got), told(want))
			}
		}
	}
}

// P24.3, P24.7: a beginning of a device's bytes tells of the entries whose records are whole in it; what stands behind what is none tells nothing.
func TestReplayTorn(t *testing.T) {
	f := channel(t, 2, yes)
	l := []api.Entry{enKey(1), enChan(f), enSeen(t, f, at(0), 0), enMine(t, f, at(0), 1), enGoal(f, 1)}
	data, books, ends := "", []api.Book{{}}, []int{0}
	for i, e := range l {
		data += log.Frame(Write(e))
		books, ends = append(books, bookOf(t, l[:i+1]...)), append(ends, len(data))
	}
	whole := 0
	for n := range len(data) + 1 {
		if whole < len(l) && n == ends[whole+1] {
			whole++
		}
		if got := Replay(data[:n]); spelled(got) != spelled(books[whole]) {
			t.Fatalf("%d bytes: %s, want %s", n, told(got), told(books[whole]))
		}
	}
	for i := range l {
		for what, b := range map[string]string{"a byte": "\x00", "a torn one": log.Frame("abc")[:10], "a turned one": turned(log.Frame(Write(enKey(0))))} {
			s := data[:ends[i]] + b + data[ends[i]:]
			if got := Replay(s); spelled(got) != spelled(books[i]) {
				t.Errorf("%s behind %d: %s", what, i, told(got))
			}
		}
	}
}

// turned is a text with its last bit turned.
func turned(s string) string { return s[:len(s)-1] + string([]byte{s[len(s)-1] ^ 1}) }

// P24.4: Find tells the channel of that name, and nothing of any other one.
func TestFind(t *testing.T) {
	b := bookOf(t, enKey(1))
	for n := range uint64(8) {
		f := numbered(t, 2, n)
		b = takes(t, b, enChan(f), enSeen(t, f, at(n), 0))
	}
	for n := range uint64(8) {
		c, ok := Find(b, state.Id(numbered(t, 2, n)))
		if !ok || spelled(c) != spelled(b.Chans[n]) || c.Fixed.Nonce != n {
			t.Errorf("channel %d: %v, %s", n, ok, toldChan(c))
		}
	}
	id := b.Chans[0].Id
	for _, name := range []string{"", id[:31], id + "\x00", rep(0, 32), state.Id(numbered(t, 2, 8)), whoOf(t, 0)} {
		if c, ok := Find(b, name); ok || spelled(c) != spelled(api.Chan{}) {
			t.Errorf("%.6x of %d bytes: %s", name, len(name), toldChan(c))
		}
	}
	if c, ok := Find(api.Book{}, id); ok || spelled(c) != spelled(api.Chan{}) {
		t.Errorf("of an empty book: %s", toldChan(c))
	}
}

// P24.4: two books are the same, if each field is.
func TestSame(t *testing.T) {
	f := channel(t, 2, yes)
	make := func() api.Book {
		return bookOf(t, enKey(0), enChan(f), enMine(t, f, at(4), 0), enSeen(t, f, at(5), 1), enChan(numbered(t, 2, 9)))
	}
	good := make()
	if !Same(good, make()) || !Same(api.Book{}, api.Book{}) || Same(good, api.Book{}) || Same(api.Book{}, good) {
		t.Error("two that are made alike are not the same, or one is nothing")
	}
	changes := map[string]func(*api.Book){
		"Key":         func(b *api.Book) { b.Key[3]++ },
		"Who":         func(b *api.Book) { b.Who += "a" },
		"one less":    func(b *api.Book) { b.Chans = b.Chans[:1] },
		"none":        func(b *api.Book) { b.Chans = nil },
		"the order":   func(b *api.Book) { slices.Reverse(b.Chans) },
		"Parts":       func(b *api.Book) { b.Chans[0].Fixed.Parts[1] += "a" },
		"Parts less":  func(b *api.Book) { b.Chans[0].Fixed.Parts = b.Chans[0].Fixed.Parts[:1] },
		"Nonce":       func(b *api.Book) { b.Chans[0].Fixed.Nonce++ },
		"App":         func(b *api.Book) { b.Chans[0].Fixed.App += "a" },
		"Time":        func(b *api.Book) { b.Chans[1].Fixed.Time++ },
		"Id":          func(b *api.Book) { b.Chans[0].Id += "a" },
		"Me":          func(b *api.Book) { b.Chans[1].Me++ },
		"Mine":        func(b *api.Book) { b.Chans[0].Mine++ },
		"Goal":        func(b *api.Book) { b.Chans[1].Goal = 1 },
		"Kept less":   func(b *api.Book) { b.Chans[0].Kept = b.Chans[0].Kept[:1] },
		"Kept none":   func(b *api.Book) { b.Chans[0].Kept = nil },
		"Kept more":   func(b *api.Book) { b.Chans[1].Kept = b.Chans[0].Kept },
		"Turn":        func(b *api.Book) { b.Chans[0].Kept[1].Var.Turn++ },
		"Final":       func(b *api.Book) { b.Chans[0].Kept[1].Var.Final = true },
		"Data":        func(b *api.Book) { b.Chans[0].Kept[0].Var.Data += "a" },
		"Asset":       func(b *api.Book) { b.Chans[0].Kept[0].Var.Exits[0].Asset = rep(8, 20) },
		"Amount":      func(b *api.Book) { b.Chans[0].Kept[1].Var.Exits[0].Allocs[1].Amount[2]++ },
		"Exits none":  func(b *api.Book) { b.Chans[0].Kept[1].Var.Exits = nil },
		"Has":         func(b *api.Book) { b.Chans[0].Kept[1].Has[0] = true },
		"Has less":    func(b *api.Book) { b.Chans[0].Kept[1].Has = b.Chans[0].Kept[1].Has[:1] },
		"a seal":      func(b *api.Book) { b.Chans[0].Kept[0].Seals[0].S[3]++ },
		"a seal Odd":  func(b *api.Book) { b.Chans[0].Kept[1].Seals[0].Odd = true },
		"a seal less": func(b *api.Book) { b.Chans[0].Kept[1].Seals = b.Chans[0].Kept[1].Seals[:1] },
	}
	for what, change := range changes {
		b := make()
		change(&b)
		if Same(b, good) || Same(good, b) || !Same(b, b) {
			t.Errorf("%s: they are the same", what)
		}
	}
}

// P24.4, 0.7: an empty list is none.
func TestSameEmpty(t *testing.T) {
	a := bookOf(t, enKey(0), enChan(channel(t, 2, yes)))
	b := bookOf(t, enKey(0), enChan(channel(t, 2, yes)))
	b.Chans[0].Kept = []api.Kept{}
	if !Same(a, b) || !Same(api.Book{}, api.Book{Chans: []api.Chan{}}) {
		t.Error("an empty list is not none")
	}
}

// 0.5: what Apply tells shares no memory with the book or the entry, nor does what Find and Best tell with theirs.
func TestOwnMemory(t *testing.T) {
	f := channel(t, 2, yes)
	v := at(4)
	chanEntry, stateEntry, seen := enChan(f), enMine(t, f, v, 0), enSeen(t, f, at(5), 1)
	zero := bookOf(t, enKey(0))
	one := takes(t, zero, chanEntry)
	two := takes(t, one, stateEntry)
	three := takes(t, two, seen)
	four := takes(t, three, enGoal(f, 1))
	beside, err := Apply(three, seen)
	found, _ := Find(three, state.Id(f))
	best := Best(three.Chans[0])
	all := []api.Book{zero, one, two, four, beside}
	var before []string
	for _, b := range all {
		before = append(before, spelled(b))
	}
	foundBefore, bestBefore := spelled(found), spelled(best)
	if err != api.ErrThere || len(best) != 2 {
		t.Fatalf("error %d, best of %d", err, len(best))
	}
	wipe(three)
	clear(chanEntry.Fixed.Parts)
	clear(stateEntry.Var.Exits[0].Allocs)
	clear(seen.Var.Exits)
	for i, b := range all {
		if spelled(b) != before[i] {
			t.Errorf("book %d was changed with another one's lists", i)
		}
	}
	if spelled(found) != foundBefore || spelled(best) != bestBefore {
		t.Error("what was told was changed with the book's lists")
	}
}

// 0.5: two states of what Best tells share no list, nor do two calls' answers.
func TestBestOwn(t *testing.T) {
	f := channel(t, 2, yes)
	b := takes(t, opened(t, f, 0), enMine(t, f, at(4), 0), enSeen(t, f, at(5), 1))
	one, two := Best(b.Chans[0]), Best(b.Chans[0])
	before := spelled(two)
	for _, s := range one {
		clear(s.Var.Exits[0].Allocs)
		clear(s.Seals)
		_ = append(s.Seals, api.Seal{S: api.U{9}})
	}
	clear(one)
	if spelled(two) != before || before != spelled(Best(b.Chans[0])) {
		t.Error("one call's answer was changed with another one's")
	}
}

// wipe overwrites all memory of a book's lists.
func wipe(b api.Book) {
	for _, c := range b.Chans {
		for _, k := range c.Kept {
			for _, e := range k.Var.Exits {
				clear(e.Allocs[:cap(e.Allocs)])
			}
			clear(k.Var.Exits[:cap(k.Var.Exits)])
			clear(k.Has[:cap(k.Has)])
			clear(k.Seals[:cap(k.Seals)])
		}
		clear(c.Kept[:cap(c.Kept)])
		clear(c.Fixed.Parts[:cap(c.Fixed.Parts)])
	}
	clear(b.Chans[:cap(b.Chans)])
}

// oddChans are channels that Apply never tells.
func oddChans(t testing.TB) []api.Chan {
	t.Helper()
	f := channel(t, 2, yes)
	good := takes(t, opened(t, f, 0), enMine(t, f, at(4), 0), enSeen(t, f, at(5), 1)).Chans[0]
	with := func(change func(*api.Chan)) api.Chan {
		c := copiedChan(good)
		change(&c)
		return c
	}
	return []api.Chan{
		{}, {Kept: make([]api.Kept, 3)}, {Id: state.Id(f)}, {Id: state.Id(f), Kept: make([]api.Kept, 9)},
		with(func(c *api.Chan) { c.Me = -1 }), with(func(c *api.Chan) { c.Me = 2 }), with(func(c *api.Chan) { c.Me = 1 << 62 }),
		with(func(c *api.Chan) { c.Fixed.Parts = nil }), with(func(c *api.Chan) { c.Fixed.Parts = c.Fixed.Parts[:1] }),
		with(func(c *api.Chan) { c.Fixed.Parts = slices.Repeat(c.Fixed.Parts, 9) }), with(func(c *api.Chan) { c.Fixed = api.Fixed{} }),
		with(func(c *api.Chan) { c.Fixed.Parts = []string{"a", "a"} }), with(func(c *api.Chan) { c.Fixed.Time = -1 }),
		with(func(c *api.Chan) { c.Kept[1].Has = nil }), with(func(c *api.Chan) { c.Kept[1].Seals = nil }),
		with(func(c *api.Chan) { c.Kept[1].Has = make([]bool, 9) }), with(func(c *api.Chan) { c.Kept[0].Seals = make([]api.Seal, 9) }),
		with(func(c *api.Chan) { c.Kept[0].Has, c.Kept[0].Seals = nil, nil }), with(func(c *api.Chan) { c.Kept = append(c.Kept, api.Kept{}) }),
		with(func(c *api.Chan) { slices.Reverse(c.Kept) }), with(func(c *api.Chan) { c.Kept[0].Var.Turn = top }),
		with(func(c *api.Chan) { c.Kept[1].Var.Turn = top; c.Kept[1].Has[0] = true }), with(func(c *api.Chan) { c.Kept[1].Var.Exits = make([]api.Exit, 9) }),
		with(func(c *api.Chan) { c.Kept = slices.Repeat(c.Kept, 9) }), with(func(c *api.Chan) { c.Mine = top }), with(func(c *api.Chan) { c.Goal = -7 }),
	}
}

// 0.1: no call panics, whatever it is given.
func TestUnfit(t *testing.T) {
	f := channel(t, 2, yes)
	entries := []api.Entry{enKey(0), enChan(f), enChan(numbered(t, 2, 8)), enGoal(f, 1), {}, {Kind: -1}}
	for _, v := range []api.Var{at(0), at(4), other(4), at(5), at(6), at(api.MaxTurn), {Turn: top}} {
		for part := range 2 {
			entries = append(entries, api.Entry{Kind: api.EnMine, Channel: state.Id(f), Var: v}, api.Entry{Kind: api.EnSeen, Channel: state.Id(f), Var: v, Who: part})
			if state.FitVar(v) {
				entries = append(entries, enMine(t, f, v, part), enSeen(t, f, v, part))
			}
		}
	}
	entries = append(entries, api.Entry{Kind: api.EnSeen, Channel: state.Id(f), Who: 3}, api.Entry{Kind: api.EnSeen, Channel: state.Id(f), Who: -1})
	for i, c := range oddChans(t) {
		for _, b := range []api.Book{{Who: whoOf(t, 0), Chans: []api.Chan{c}}, {Who: "a", Key: api.U{top, top, top, top}, Chans: []api.Chan{c, c}}, {Chans: []api.Chan{c}}} {
			before := spelled(b)
			for _, e := range entries {
				if got, err := Apply(b, e); err != api.OK && spelled(got) != before || spelled(b) != before {
					t.Errorf("%d, kind %d, error %d: the book was changed", i, e.Kind, err)
				}
			}
			Best(c)
			Find(b, state.Id(f))
			Find(b, "")
			if !Same(b, b) {
				t.Errorf("%d: not the same as itself", i)
			}
		}
	}
	for _, s := range []string{rep(0, 8), rep(255, 1000), log.Frame(rep(0, 65536)), log.Frame(rep(255, 256))} {
		if b := Replay(s); !Same(b, api.Book{}) {
			t.Errorf("%.8x: %s", s, told(b))
		}
	}
}

// P24.2: all that Apply asks of a seal it asks of seal.Who: what is sealed by a key that another participant has is not that one's.
func TestSealOf(t *testing.T) {
	f := channel(t, 4, yes)
	for me := range 4 {
		b := opened(t, f, me)
		for part := range 4 {
			for by := range 4 {
				e := enSealed(t, f, at(8), me, part)
				e.Seal = sealOf(t, f, at(8), by)
				who, err := seal.Who(state.Digest(f, at(8)), e.Seal)
				if own, _ := key.Who(keyOf(by)); err != api.OK || who != own {
					t.Fatalf("error %d", err)
				}
				if part == by {
					takes(t, b, e)
				} else {
					refuses(t, fmt.Sprintf("%d by %d", part, by), b, e, api.ErrSeal)
				}
			}
		}
	}
}
