package book

import (
	"fmt"
	"testing"

	"truce/api"
	"truce/log"
	"truce/seal"
	"truce/state"
)

// mixedEntry is an entry for a participant's book with some channels: mostly one that can be taken, at turns near to a place.
func mixedEntry(t testing.TB, seed *uint64, fixed []api.Fixed, me int, near uint64) api.Entry {
	t.Helper()
	f := fixed[below(seed, len(fixed))]
	turn := near + uint64(below(seed, 5))
	makers := []func(uint64) api.Var{at, at, at, at, at, at, at, other, rich}
	v := makers[below(seed, len(makers))](turn)
	v.Final = below(seed, 20) == 0
	var e api.Entry
	switch below(seed, 24) {
	case 0:
		e = enKey(below(seed, 2))
	case 1, 2:
		e = enChan(f)
	case 3:
		e = enGoal(f, below(seed, 3))
	case 4, 5, 6, 7, 8, 9, 10:
		e = enMine(t, f, v, me)
	default:
		e = enSeen(t, f, v, below(seed, len(f.Parts)))
	}
	spoil(seed, &e)
	return e
}

// spoil breaks an entry, now and then.
func spoil(seed *uint64, e *api.Entry) {
	switch below(seed, 40) {
	case 0:
		e.Kind = below(seed, 8)
	case 1:
		e.Who = below(seed, 5)
	case 2:
		e.Channel = rep(byte(below(seed, 3)), 32)
	case 3:
		e.Seal.S[below(seed, 4)] ^= 1 << below(seed, 64)
	case 4:
		e.Var.Turn++
	}
}

// P24.2, P24.5, P24.6: mixed rows of entries against the plain book; each book has what it supports, and no turn is taken twice of its own.
func TestMixed(t *testing.T) {
	met := map[api.Errno]int{}
	supported, most := 0, 0
	for row := range uint64(24) {
		seed := row + 1
		parts := 2 + int(row%3)
		fixed := []api.Fixed{channel(t, parts, yes), channel(t, parts, no), numbered(t, parts, 9)}
		me := below(&seed, parts)
		plain := &plainBook{}
		b := api.Book{}
		taken := map[string]bool{}
		near := uint64(below(&seed, 3*parts))
		for step := range 70 {
			e := mixedEntry(t, &seed, fixed, me, near+uint64(step/12))
			switch step {
			case 3:
				e = enKey(me)
			case 4, 5, 6:
				e = enChan(fixed[step-4])
			}
			want := plain.apply(e)
			next, err := Apply(b, e)
			what := fmt.Sprintf("row %d, step %d, kind %d, turn %d", row, step, e.Kind, e.Var.Turn)
			if err != want {
				t.Fatalf("%s: error %d, want %d; %s", what, err, want, told(b))
			}
			if spelled(next) != spelled(plain.book()) || !Same(next, plain.book()) {
				t.Fatalf("%s: %s, want %s", what, told(next), told(plain.book()))
			}
			if name := fmt.Sprint(e.Channel, e.Var.Turn); e.Kind == api.EnMine && err == api.OK {
				if taken[name] {
					t.Fatalf("%s: taken twice", what)
				}
				taken[name] = true
			}
			b = next
			met[err]++
			for _, c := range plain.chans {
				most = max(most, len(c.vars))
				wantPlainBest(t, what, c)
			}
			if at := placeOf(b.Chans, e.Channel); at >= 0 && err == api.OK {
				supported += wantSupported(t, what, b.Chans[at])
			}
		}
	}
	for _, err := range []api.Errno{api.OK, api.ErrForm, api.ErrState, api.ErrKey, api.ErrThere, api.ErrNone, api.ErrTurn, api.ErrSeal} {
		if met[err] < 5 {
			t.Errorf("error %d was met %d times", err, met[err])
		}
	}
	if supported < 100 || most < 6 {
		t.Errorf("%d supported, at most %d kept", supported, most)
	}
}

// P24.6: of a turn that was taken, or a lower one, no EnMine is taken any more, whatever came in between and whatever was let go.
func TestNeverTwice(t *testing.T) {
	f := channel(t, 2, yes)
	b := opened(t, f, 0)
	lowest := uint64(0)
	for turn := range uint64(12) {
		if turn%2 == 0 {
			b = takes(t, b, enMine(t, f, at(turn), 0), enSeen(t, f, at(turn), 1))
			lowest = turn + 1
		} else {
			b = takes(t, b, enSeen(t, f, at(turn), 1))
		}
		for before := range lowest {
			refuses(t, fmt.Sprintf("turn %d behind %d", before, turn), b, enMine(t, f, at(before), 0), api.ErrTurn)
			refuses(t, fmt.Sprintf("another turn %d behind %d", before, turn), b, enMine(t, f, other(before), 0), api.ErrTurn)
		}
	}
}

// P24.3, P24.7: mixed entries on a device, cut anywhere: what the plain book tells of those that are whole.
func TestMixedReplay(t *testing.T) {
	for row := range uint64(6) {
		seed := 100 + row
		fixed := []api.Fixed{channel(t, 2, yes), numbered(t, 2, 9)}
		me := below(&seed, 2)
		l := []api.Entry{enKey(me), enChan(fixed[0]), enChan(fixed[1])}
		for step := range 30 {
			l = append(l, mixedEntry(t, &seed, fixed, me, uint64(step/6)))
		}
		data, ends := "", []int{}
		for _, e := range l {
			// An unfit one has no bytes: its record is that of an empty text.
			data += log.Frame(Write(e))
			ends = append(ends, len(data))
		}
		for range 12 {
			n := below(&seed, len(data)+1)
			plain := &plainBook{}
			for i, e := range l {
				if ends[i] <= n {
					plain.apply(e)
				}
			}
			if got := Replay(data[:n]); spelled(got) != spelled(plain.book()) {
				t.Fatalf("row %d, %d of %d bytes: %s, want %s", row, n, len(data), told(got), told(plain.book()))
			}
		}
	}
}

// A game of two turn by turn, each with its own book: both keep the same, and each turn is supported once both have it.
func TestGame(t *testing.T) {
	f := channel(t, 2, yes)
	books := []api.Book{opened(t, f, 0), opened(t, f, 1)}
	for turn := range uint64(20) {
		v, mover := at(turn), int(turn%2)
		s := sealOf(t, f, v, mover)
		for i := range books {
			e := api.Entry{Kind: api.EnMine, Channel: state.Id(f), Var: v, Seal: s}
			if i != mover {
				e.Kind, e.Who = api.EnSeen, mover
			}
			books[i] = takes(t, books[i], e)
		}
		if by, err := seal.Who(state.Digest(f, v), s); err != api.OK || by != f.Parts[mover] {
			t.Fatalf("turn %d: error %d", turn, err)
		}
		for i, b := range books {
			what := fmt.Sprintf("turn %d of %d", turn, i)
			if turn == 0 {
				wantBest(t, what, b)
				continue
			}
			wantBest(t, what, b, turn-1, turn)
			first := max(turn, 2) - 2
			var want []uint64
			for n := first; n <= turn; n++ {
				want = append(want, n)
			}
			wantTurns(t, what, b, want...)
		}
	}
}
