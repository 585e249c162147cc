package wallet

import (
	"fmt"
	"math"
	"testing"

	"truce/api"
	"truce/key"
	"truce/mail"
	"truce/state"
)

// P29.2: AcKey, AcOpen, AcExit note one entry each and send nothing; what the book does not take is not on the device.
func TestNotes(t *testing.T) {
	f, g := channel(t, 2, yes), numbered(t, 3, bare, 4)
	w := walletOf(t, 0, f)
	wantStep(t, "a key", New(), acKey(0), fresh(), noted(t, New(), enKey(0)), api.Reply{})
	wantStep(t, "a channel", w, acOpen(g), fresh(), noted(t, w, enChan(g)), api.Reply{})
	wantStep(t, "an exit", w, acExit(f), fresh(), noted(t, w, enExit(f)), api.Reply{})
	left := noted(t, w, enExit(f))
	wantStep(t, "an exit once more", left, acExit(f), fresh(), noted(t, left, enExit(f)), api.Reply{})

	refuses(t, "no key", New(), api.Act{Kind: api.AcKey}, fresh(), api.ErrForm)
	refuses(t, "a number that is no key", w, api.Act{Kind: api.AcKey, Key: api.U{top, top, top, top}}, fresh(), api.ErrForm)
	refuses(t, "a second key", w, acKey(1), fresh(), api.ErrThere)
	refuses(t, "the key once more", w, acKey(0), fresh(), api.ErrThere)

	refuses(t, "no channel, no key", New(), api.Act{Kind: api.AcOpen}, fresh(), api.ErrForm)
	refuses(t, "a channel without a key", New(), acOpen(f), fresh(), api.ErrState)
	refuses(t, "a channel of others", walletOf(t, 2), acOpen(f), fresh(), api.ErrKey)
	refuses(t, "a channel twice", w, acOpen(f), fresh(), api.ErrThere)

	refuses(t, "a short exit, no key", New(), api.Act{Kind: api.AcExit, Channel: rep(1, 31)}, fresh(), api.ErrForm)
	refuses(t, "an exit without a key", New(), acExit(f), fresh(), api.ErrState)
	refuses(t, "an exit from nothing", w, acExit(g), fresh(), api.ErrNone)
}

// P29.2: the book's bound of channels is the wallet's.
func TestNotesMany(t *testing.T) {
	w := walletOf(t, 1)
	for i := range 8 {
		f := numbered(t, 2, bare, uint64(i))
		next := noted(t, w, enChan(f))
		wantStep(t, fmt.Sprint("channel ", i), w, acOpen(f), fresh(), next, api.Reply{})
		w = next
	}
	refuses(t, "the ninth", w, acOpen(numbered(t, 2, bare, 8)), fresh(), api.ErrMany)
	refuses(t, "the ninth is there", w, acOpen(numbered(t, 2, bare, 7)), fresh(), api.ErrThere)
}

// P29.2: of an act's fields only its kind's count.
func TestOtherFields(t *testing.T) {
	f := channel(t, 2, bare)
	w := walletOf(t, 0, f)
	full := acMove(f, with(0, split(t, 3, 4)))
	full.Key, full.Fixed, full.Raw = keyOf(5), numbered(t, 3, bare, 9), mailOf(t, f, at(1), 1)
	of := func(kind int) api.Act {
		a := full
		a.Kind = kind
		return a
	}
	wantStep(t, "a key", New(), of(api.AcKey), fresh(), noted(t, New(), enKey(5)), api.Reply{})
	wantStep(t, "a channel", w, of(api.AcOpen), fresh(), noted(t, w, enChan(full.Fixed)), api.Reply{})
	wantStep(t, "an exit", w, of(api.AcExit), fresh(), noted(t, w, enExit(f)), api.Reply{})
	v := with(0, split(t, 3, 4))
	wantStep(t, "a move", w, of(api.AcMove), fresh(), noted(t, w, enMine(t, f, v, 0)), sent(t, f, 0, v, 0))
	after := holds(t, w, f, at(0), 0)
	wantStep(t, "a mail", after, of(api.AcHear), fresh(), holds(t, after, f, at(1), 1), api.Reply{})
	wantStep(t, "a look", w, of(api.AcLook), fresh(), w, api.Reply{})
}

// P29.2: any other kind is none, of whatever wallet.
func TestOtherKinds(t *testing.T) {
	f := channel(t, 2, bare)
	for _, kind := range []int{0, 7, 8, -1, 256 + api.AcKey, math.MinInt, math.MaxInt} {
		a := acMove(f, at(0))
		a.Kind = kind
		refuses(t, fmt.Sprint("kind ", kind), walletOf(t, 0, f), a, fresh(), api.ErrForm)
		refuses(t, fmt.Sprint("kind ", kind, " of a new one"), New(), a, fresh(), api.ErrForm)
	}
}

// P29.2: without power nothing is done, whatever is told.
func TestOff(t *testing.T) {
	f := channel(t, 2, bare)
	w := holds(t, holds(t, walletOf(t, 0, f), f, at(0), 0), f, at(1), 1)
	c := lays(t, challenged(t, fresh(), f, at(0)), f, 5)
	acts := []api.Act{
		acKey(0), acOpen(f), acOpen(numbered(t, 2, bare, 9)), acMove(f, at(2)), acMove(f, final(at(2))), acHear(""),
		acHear(mailOf(t, f, at(1), 0, 1)), acHear(mailOf(t, f, at(3), 1)), acLook(), acExit(f), {}, {Kind: 7}, {Kind: -1},
	}
	for _, tail := range []string{"", "torn"} {
		for i, a := range acts {
			refuses(t, fmt.Sprint("act ", i), off(w, tail), a, c, api.ErrPower)
			refuses(t, fmt.Sprint("act ", i, " of a new one"), off(New(), tail), a, c, api.ErrPower)
		}
	}
}

// P29.2: a state of its own goes to each other participant, in order, from each place.
func TestMove(t *testing.T) {
	for n := 2; n <= 4; n++ {
		for _, says := range []string{bare, yes} {
			f := channel(t, n, says)
			for me := range n {
				w := walletOf(t, me, f)
				for turn := range me {
					w = holds(t, w, f, at(uint64(turn)), turn)
				}
				v := at(uint64(me))
				wantStep(t, fmt.Sprintf("%d of %d", me, n), w, acMove(f, v), fresh(), holds(t, w, f, v, me), sent(t, f, me, v, me))
			}
		}
	}
}

// P29.2: what turn.Propose does not tell is not noted; an outcome, data and an end go as they are told.
func TestMoveErrors(t *testing.T) {
	f := channel(t, 2, yes)
	w := walletOf(t, 0, f)
	l := split(t, 5, 6)
	v := with(0, l)
	wantStep(t, "an outcome", w, acMove(f, v), fresh(), holds(t, w, f, v, 0), sent(t, f, 0, v, 0))
	begun := holds(t, holds(t, w, f, v, 0), f, with(1, l), 1)
	two := with(2, l)
	wantStep(t, "the next", begun, acMove(f, two), fresh(), holds(t, begun, f, two, 0), sent(t, f, 0, two, 0))
	late := holds(t, holds(t, begun, f, two, 0), f, with(3, l), 1)
	end := final(with(4, l))
	wantStep(t, "the end", late, acMove(f, end), fresh(), holds(t, late, f, end, 0), sent(t, f, 0, end, 0))
	free := api.Var{Turn: 4, Data: "free", Exits: split(t, 6, 5)}
	wantStep(t, "another one", late, acMove(f, free), fresh(), holds(t, late, f, free, 0), sent(t, f, 0, free, 0))

	refuses(t, "no channel", w, acMove(channel(t, 2, bare), v), fresh(), api.ErrNone)
	refuses(t, "no key", New(), acMove(f, v), fresh(), api.ErrNone)
	refuses(t, "too much data", w, acMove(f, api.Var{Data: rep(1, 257)}), fresh(), api.ErrForm)
	refuses(t, "its own turn is over", holds(t, w, f, v, 0), acMove(f, v), fresh(), api.ErrTurn)
	refuses(t, "another one's turn", walletOf(t, 1, f), acMove(f, v), fresh(), api.ErrTurn)
	refuses(t, "an end ahead of all", w, acMove(f, final(v)), fresh(), api.ErrRule)
	refuses(t, "other totals", begun, acMove(f, with(2, split(t, 5, 7))), fresh(), api.ErrRule)
	deaf := channel(t, 2, no)
	stuck := holds(t, walletOf(t, 0, deaf), deaf, with(3, l), 1)
	refuses(t, "what the rule refuses", stuck, acMove(deaf, free), fresh(), api.ErrRule)
}

// P29.2: a move that finds no room among the kept states.
func TestMoveMany(t *testing.T) {
	f := channel(t, 2, bare)
	w := walletOf(t, 0, f)
	for turn := range uint64(8) {
		w = holds(t, w, f, at(2*turn+1), 1)
	}
	refuses(t, "a ninth state", w, acMove(f, at(16)), fresh(), api.ErrMany)
}

// P29.2: bytes that are no mail, mails that bring nothing.
func TestHearErrors(t *testing.T) {
	f := channel(t, 2, bare)
	w := holds(t, walletOf(t, 0, f), f, at(0), 0)
	raw := mailOf(t, f, at(1), 1)
	for what, s := range map[string]string{
		"nothing": "", "a byte": "\x00", "a mail cut": raw[:len(raw)-1], "a mail and more": raw + "\x00", "a state": state.Write(at(1)),
		"a record": recordOf(t, enSeen(t, f, at(1), 1)),
	} {
		refuses(t, what, w, acHear(s), fresh(), api.ErrForm)
		refuses(t, what+" for a new one", New(), acHear(s), fresh(), api.ErrForm)
	}
	g := numbered(t, 2, bare, 9)
	refuses(t, "another channel", w, acHear(mailOf(t, g, at(0), 0)), fresh(), api.ErrNone)
	refuses(t, "no key", New(), acHear(raw), fresh(), api.ErrNone)
	strange := mail.Write(api.Mail{Fixed: f, Signed: api.Signed{Var: at(1), Seals: make([]api.Seal, 1)}})
	refuses(t, "nobody's seal", w, acHear(strange), fresh(), api.ErrSeal)
	refuses(t, "a stranger's seal", w, acHear(mailOf(t, f, at(1), stranger)), fresh(), api.ErrSeal)
	refuses(t, "its own turn's other state", w, acHear(mailOf(t, f, other(0), 1)), fresh(), api.ErrThere)
	refuses(t, "a turn too far", w, acHear(mailOf(t, f, at(3), 1)), fresh(), api.ErrTurn)
	refuses(t, "not by the one whose turn it is", w, acHear(mailOf(t, f, at(1), 0)), fresh(), api.ErrProof)
	refuses(t, "an end too early", w, acHear(mailOf(t, f, final(at(1)), 1)), fresh(), api.ErrRule)
	refuses(t, "a first turn of 1", walletOf(t, 0, f), acHear(raw), fresh(), api.ErrTurn)
}

// P29.2: what a mail brings is noted, each seal an entry; what is there already is no error, and no entry.
func TestHear(t *testing.T) {
	f := channel(t, 4, yes)
	w := holds(t, walletOf(t, 2, f), f, at(7), 3)
	v := at(8)
	wantStep(t, "one seal", w, acHear(mailOf(t, f, v, 0)), fresh(), holds(t, w, f, v, 0), api.Reply{})
	wantStep(t, "all seals", w, acHear(mailOf(t, f, v, 3, 1, 2, 0)), fresh(), holds(t, w, f, v, 0, 1, 3), api.Reply{})
	wantStep(t, "one twice", w, acHear(mailOf(t, f, v, 1, 0, 1, 0)), fresh(), holds(t, w, f, v, 0, 1), api.Reply{})
	heard := holds(t, w, f, v, 0, 3)
	wantStep(t, "once more", heard, acHear(mailOf(t, f, v, 3, 0)), fresh(), heard, api.Reply{})
	wantStep(t, "its own", heard, acHear(mailOf(t, f, v, 2)), fresh(), heard, api.Reply{})
	wantStep(t, "what lacks", heard, acHear(mailOf(t, f, v, 0, 1, 3)), fresh(), holds(t, heard, f, v, 1), api.Reply{})
}

// P29.2: a state that is heard and finds no room among the kept ones is not answered either.
func TestHearMany(t *testing.T) {
	f := channel(t, 3, yes)
	w := walletOf(t, 0, f)
	for turn := range uint64(8) {
		w = holds(t, w, f, at(2*turn+1), 1)
	}
	refuses(t, "a ninth state", w, acHear(mailOf(t, f, at(16), 1)), fresh(), api.ErrMany)
	refuses(t, "a ninth state by two", w, acHear(mailOf(t, f, at(16), 1, 2)), fresh(), api.ErrMany)
	refuses(t, "a ninth state, an end", w, acHear(mailOf(t, f, final(at(16)), 1, 2)), fresh(), api.ErrMany)
	wantStep(t, "another one's seal", w, acHear(mailOf(t, f, at(15), 2)), fresh(), holds(t, w, f, at(15), 2), api.Reply{})
}

// P29.2: a mail that brings nothing new is answered still, if its channel asks for it.
func TestAnswerLate(t *testing.T) {
	f := channel(t, 2, bare)
	w := holds(t, walletOf(t, 0, f), f, at(5), 1)
	after, reply := holds(t, w, f, at(5), 0), sent(t, f, 0, at(5), 0, 1)
	wantStep(t, "the same mail", w, acHear(mailOf(t, f, at(5), 1)), fresh(), after, reply)
	wantStep(t, "its own seal alone, of another turn", w, acHear(mailOf(t, f, at(6), 0)), fresh(), after, reply)
	refuses(t, "a mail with an error", w, acHear(mailOf(t, f, other(5), 1)), fresh(), api.ErrThere)
}

// P29.2: what it signs by itself goes to all others, with all seals that it has, in the participants' order, its own among them.
func TestAnswer(t *testing.T) {
	f := channel(t, 4, bare)
	for _, row := range []struct {
		me, ahead         int
		turn              uint64
		mail, noted, sent []int
	}{
		{0, 3, 9, []int{3, 1}, []int{1, 3}, []int{0, 1, 3}},
		{1, 3, 12, []int{0, 1, 2}, []int{0, 2}, []int{0, 1, 2}},
		{2, 3, 12, []int{3, 0}, []int{0, 3}, []int{0, 2, 3}},
		{3, 1, 12, []int{0}, []int{0}, []int{0, 3}},
		{3, 1, 12, []int{2, 1, 0}, []int{0, 1, 2}, []int{0, 1, 2, 3}},
	} {
		v := at(row.turn)
		w := holds(t, walletOf(t, row.me, f), f, at(row.turn-1), row.ahead)
		after := holds(t, holds(t, w, f, v, row.noted...), f, v, row.me)
		wantStep(t, fmt.Sprint(row), w, acHear(mailOf(t, f, v, row.mail...)), fresh(), after, sent(t, f, row.me, v, row.sent...))
	}
}

// P29.2: where a rule moves, just an end is answered; what takes from it is noted, and not answered.
func TestAnswerOrNot(t *testing.T) {
	f, g := channel(t, 2, yes), channel(t, 2, bare)
	v := with(6, split(t, 5, 6))
	w := holds(t, walletOf(t, 0, f, g), f, v, 0)
	w = sealed(t, w, g, v)
	next, end := with(7, split(t, 6, 5)), final(with(7, split(t, 5, 6)))
	wantStep(t, "more by a rule", w, acHear(mailOf(t, f, next, 1)), fresh(), holds(t, w, f, next, 1), api.Reply{})
	wantStep(t, "an end by a rule", w, acHear(mailOf(t, f, end, 1)), fresh(), holds(t, w, f, end, 1, 0), sent(t, f, 0, end, 0, 1))
	wantStep(t, "more by all", w, acHear(mailOf(t, g, next, 1)), fresh(), holds(t, w, g, next, 1, 0), sent(t, g, 0, next, 0, 1))
	less := with(7, split(t, 4, 7))
	wantStep(t, "less by all", w, acHear(mailOf(t, g, less, 1)), fresh(), holds(t, w, g, less, 1), api.Reply{})
	wantStep(t, "an end by all", w, acHear(mailOf(t, g, end, 1)), fresh(), holds(t, w, g, end, 1, 0), sent(t, g, 0, end, 0, 1))
	early := holds(t, walletOf(t, 0, g), g, at(0), 0)
	wantStep(t, "a turn ahead of two rounds", early, acHear(mailOf(t, g, at(1), 1)), fresh(), holds(t, early, g, at(1), 1), api.Reply{})
}

// P29.5, P29.6: two wallets go on by what each sends to the other; nobody needs more than the letters.
func TestTalk(t *testing.T) {
	f := channel(t, 2, bare)
	both := []api.Wallet{walletOf(t, 0, f), walletOf(t, 1, f)}
	for turn := range uint64(12) {
		me := int(turn % 2)
		v := with(turn, split(t, 5, 6))
		w, r := Step(both[me], acMove(f, v), fresh())
		both[me] = w
		for to := 1 - me; len(r.Letters) > 0; to = 1 - to {
			if len(r.Letters) != 1 || r.Letters[0].To != whoOf(t, to) {
				t.Fatalf("turn %d: %s", turn, toldReply(r))
			}
			both[to], r = Step(both[to], acHear(r.Letters[0].Raw), fresh())
		}
		if r.Err != api.OK {
			t.Fatalf("turn %d: %s", turn, toldReply(r))
		}
	}
	for me, w := range both {
		// Behind two rounds both sign each state.
		last := w.Book.Chans[0].Kept[len(w.Book.Chans[0].Kept)-1]
		if last.Var.Turn != 11 || !last.Has[0] || !last.Has[1] {
			t.Errorf("%d: %s", me, told(w))
		}
		wantLasting(t, fmt.Sprint(me), w)
	}
}

// P29.2: whose key a wallet has tells who it is, whatever the key.
func TestKeys(t *testing.T) {
	for _, n := range []uint64{0, 1, 77} {
		who, err := key.Who(key.Small(n))
		if err != api.OK {
			t.Fatalf("no key: %d", n)
		}
		w, r := Step(New(), api.Act{Kind: api.AcKey, Key: key.Small(n)}, fresh())
		if r.Err != api.OK || w.Book.Who != who || w.Book.Key != key.Small(n) {
			t.Errorf("key %d: %s, %s", n, told(w), toldReply(r))
		}
	}
}
