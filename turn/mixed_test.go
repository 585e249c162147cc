package turn

import (
	"fmt"
	"testing"

	"truce/api"
	"truce/book"
	"truce/state"
)

// party is some wallets' books, their channels, and all signed states that were sent of each.
type party struct {
	seed  uint64
	fixed []api.Fixed
	books []api.Book
	sent  []letter
	heard []int
	steps int
	met   map[string]int
}

type letter struct {
	f api.Fixed
	s api.Signed
}

// mixedExits is an outcome of gold and, now and then, of wool: mostly with the same sums, some of it bound to one of the channels.
func (p *party) mixedExits(t testing.TB) []api.Exit {
	t.Helper()
	n := len(p.books)
	left := below(&p.seed, 13)
	e := exit(gold, plain(t, 0, uint64(left)), plain(t, 1, uint64(12-left)))
	if below(&p.seed, 3) == 0 {
		tied := below(&p.seed, 1+int(e.Allocs[1].Amount[0]))
		e.Allocs[1].Amount[0] -= uint64(tied)
		to := p.fixed[below(&p.seed, len(p.fixed))]
		e.Allocs = append(e.Allocs, bound(t, to, below(&p.seed, n), below(&p.seed, n), uint64(tied)))
	}
	if below(&p.seed, 12) == 0 {
		e.Allocs[0].Amount[0]++
	}
	l := []api.Exit{e}
	if below(&p.seed, 4) == 0 {
		l = append(l, exit(wool, plain(t, below(&p.seed, n), uint64(below(&p.seed, 2)))))
	}
	return l
}

// isLate tells whether games may end, or break, since one signs two states of a turn.
func (p *party) isLate() bool { return p.steps > 120 }

// step lets a wallet propose, hear or answer; each answer is held against the chapter's words, and its book takes it.
func (p *party) step(t testing.TB) {
	t.Helper()
	p.steps++
	me, f := below(&p.seed, len(p.books)), p.fixed[below(&p.seed, len(p.fixed))]
	if len(p.sent) > 0 && below(&p.seed, 5) > 1 {
		p.hear(t, me)
		return
	}
	c, _ := book.Find(p.books[me], state.Id(f))
	if last := plainLast(c); last != nil && below(&p.seed, 4) > 0 {
		// Mostly the one whose turn it is.
		me = int(last.Var.Turn+1) % len(f.Parts)
		c, _ = book.Find(p.books[me], state.Id(f))
	}
	v := api.Var{Data: "d", Final: p.isLate() && below(&p.seed, 4) == 0}
	if last := plainLast(c); last != nil && below(&p.seed, 8) > 0 {
		v.Data, v.Exits = last.Var.Data, last.Var.Exits
	}
	if turn := plainLast(c); turn == nil || turn.Var.Turn+1 >= uint64(2*len(f.Parts)) && below(&p.seed, 2) == 0 {
		v.Exits = p.mixedExits(t)
	}
	e, err := proposes(t, "mixed", p.books[me], f, v)
	p.met[fmt.Sprint("propose ", int(err))]++
	if err == api.OK {
		p.note(t, me, f, e)
	}
}

// note writes an entry of a wallet's own down, and sends it with all seals that are kept.
func (p *party) note(t testing.TB, me int, f api.Fixed, e api.Entry) {
	t.Helper()
	next, err := book.Apply(p.books[me], e)
	if err == api.ErrMany {
		p.met["many"]++
		return
	}
	if err != api.OK {
		t.Fatalf("its own entry is not taken: error %d: %s", err, toldEntry(e))
	}
	p.books[me] = next
	c, _ := book.Find(next, e.Channel)
	s := api.Signed{Var: e.Var}
	for _, k := range c.Kept {
		for part, has := range k.Has {
			if has && k.Var.Turn == e.Var.Turn {
				s.Seals = append(s.Seals, k.Seals[part])
			}
		}
	}
	p.sent = append(p.sent, letter{f, s})
}

// next is the letter that a wallet hears: mostly the first one that it has not heard, now and then any, late or twice.
func (p *party) next(me int) int {
	if p.heard[me] == len(p.sent) || below(&p.seed, 6) == 0 {
		return below(&p.seed, len(p.sent))
	}
	return p.heard[me]
}

// hear brings a wallet a letter, and lets it answer. One that was spoilt on its way comes again.
func (p *party) hear(t testing.TB, me int) {
	t.Helper()
	at := p.next(me)
	f, s := p.sent[at].f, p.sent[at].s
	s.Seals = append([]api.Seal{}, s.Seals...)
	if !p.spoil(t, f, &s) && at == p.heard[me] {
		p.heard[me]++
	}
	_, err, next := accepts(t, "mixed", p.books[me], f, s)
	p.met[fmt.Sprint("accept ", int(err))]++
	p.books[me] = next
	if err == api.OK {
		p.answer(t, me, f)
	}
}

// spoil changes a signed state, now and then; whether it did.
func (p *party) spoil(t testing.TB, f api.Fixed, s *api.Signed) bool {
	t.Helper()
	mover := int(s.Var.Turn) % len(f.Parts)
	switch below(&p.seed, 40) {
	case 0:
		s.Seals = nil
	case 1:
		s.Seals[0].S[1] ^= 1
	case 2:
		s.Var.Data += "x"
	case 3:
		s.Seals = append(s.Seals, s.Seals...)
	case 4:
		s.Seals = []api.Seal{sealOf(t, f, s.Var, (mover+1)%len(f.Parts))}
	case 5:
		s.Var.Data = rep(1, 257)
	case 6:
		// Nobody may move so, whoever has signed it.
		s.Var.Turn, s.Var.Final = s.Var.Turn%uint64(2*len(f.Parts)), true
		s.Seals = []api.Seal{sealOf(t, f, s.Var, 0), sealOf(t, f, s.Var, 1)}
	case 7, 8:
		if p.isLate() {
			s.Var = with(s.Var.Turn, p.mixedExits(t))
			s.Seals = []api.Seal{sealOf(t, f, s.Var, mover)}
		}
	default:
		return false
	}
	return true
}

// answer lets a wallet sign what it signs by itself. P25.6: of no asset that is then less its own than what is supported.
func (p *party) answer(t testing.TB, me int, f api.Fixed) {
	t.Helper()
	b := p.books[me]
	if !answers(t, "mixed", b, f) {
		p.met["silent"]++
		return
	}
	e, _ := Answer(b, state.Id(f))
	c, _ := book.Find(b, state.Id(f))
	if best := book.Best(c); len(best) > 0 && !e.Var.Final {
		for _, asset := range []string{gold, wool} {
			now, then := Worth(b, e.Var.Exits, asset), Worth(b, best[len(best)-1].Var.Exits, asset)
			if bigOf(now).Cmp(bigOf(then)) < 0 {
				t.Fatalf("it signs away: %s: %v, was %v; %s", toldEntry(e), now, then, toldChan(c))
			}
		}
		p.met["signed"]++
	}
	p.met[fmt.Sprint("final ", e.Var.Final)]++
	p.note(t, me, f, e)
}

// P25.1 to P25.6: wallets that play mixed games; letters are lost, late, spoilt, or come twice.
func TestMixed(t *testing.T) {
	met := map[string]int{}
	for row := range 12 {
		p := party{seed: uint64(row) + 25, met: met}
		parts := 2 + row%2
		p.fixed = []api.Fixed{channel(t, parts, bare), numbered(t, parts, []string{yes, bare, no}[row/2%3], 5)}
		p.heard = make([]int, parts)
		for me := range parts {
			p.books = append(p.books, bookOf(t, me, p.fixed...))
		}
		for range 220 {
			p.step(t)
		}
		for me, b := range p.books {
			for _, f := range p.fixed {
				c, _ := book.Find(b, state.Id(f))
				if len(book.Best(c)) > 0 {
					met["supported"]++
				}
				l := p.mixedExits(t)
				for _, asset := range []string{gold, wool, ""} {
					wantWorth(t, fmt.Sprint("mixed, of ", me), b, l, asset, plainWorth(b, l, asset))
				}
			}
		}
	}
	for what, least := range map[string]int{
		"propose 0": 150, "propose 11": 100, "propose 12": 30, "propose 14": 5,
		"accept 0": 400, "accept 2": 5, "accept 4": 10, "accept 10": 10, "accept 11": 50, "accept 12": 5, "accept 13": 5,
		"signed": 30, "silent": 100, "final true": 3, "final false": 30, "supported": 30,
	} {
		if met[what] < least {
			t.Errorf("%s was met %d times", what, met[what])
		}
	}
}
