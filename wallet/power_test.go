package wallet

import (
	"fmt"
	"math"
	"testing"

	"truce/api"
	"truce/disk"
)

// P29.3, P29.4: the power fails behind each byte: nothing of the act is left behind Boot, and it can be told again.
func TestTorn(t *testing.T) {
	f := channel(t, 2, bare)
	w := walletOf(t, 0, f)
	record := recordOf(t, enExit(f))
	for n := range len(record) {
		wantStep(t, fmt.Sprint("at ", n), armed(w, n), acExit(f), fresh(), off(w, record[:n]), beside(api.ErrPower))
		for _, keep := range []int{0, n} {
			if got := Boot(off(w, record[:n]), keep); !Same(got, w) {
				t.Errorf("at %d, %d kept: %s", n, keep, told(got))
			}
		}
	}
	full := noted(t, armed(w, len(record)), enExit(f))
	wantStep(t, "at the end", armed(w, len(record)), acExit(f), fresh(), full, api.Reply{})
	wantStep(t, "behind the end", full, acExit(f), fresh(), off(full, ""), beside(api.ErrPower))
	wantStep(t, "beyond it", armed(w, len(record)+1), acExit(f), fresh(), armed(full, 1), api.Reply{})
}

// P29.2: acts of each kind that find no power, in an entry of theirs.
func TestTornKinds(t *testing.T) {
	f, g := channel(t, 2, bare), numbered(t, 2, bare, 9)
	w := walletOf(t, 0, f)
	for what, row := range map[string]struct {
		w api.Wallet
		a api.Act
		e api.Entry
	}{
		"a key":     {New(), acKey(0), enKey(0)},
		"a channel": {w, acOpen(g), enChan(g)},
		"a move":    {w, acMove(f, at(0)), enMine(t, f, at(0), 0)},
		"a mail":    {holds(t, w, f, at(0), 0), acHear(mailOf(t, f, at(1), 1)), enSeen(t, f, at(1), 1)},
		"an answer": {holds(t, w, f, at(5), 1), acHear(mailOf(t, f, at(5), 1)), enMine(t, f, at(5), 0)},
	} {
		record := recordOf(t, row.e)
		for _, n := range []int{0, 1, 3, 8, 9, len(record) - 1} {
			torn := off(row.w, record[:n])
			wantStep(t, fmt.Sprintf("%s at %d", what, n), armed(row.w, n), row.a, fresh(), torn, beside(api.ErrPower))
			for _, keep := range []int{math.MinInt, 0, n - 1, n, math.MaxInt} {
				if got := Boot(torn, keep); !Same(got, row.w) {
					t.Errorf("%s at %d, %d kept: %s", what, n, keep, told(got))
				}
			}
		}
		enough := armed(row.w, len(record))
		_, want := Step(row.w, row.a, fresh())
		wantStep(t, what+" with just enough", enough, row.a, fresh(), noted(t, enough, row.e), want)
	}
}

// P29.2, P29.3: a mail of several seals, the power failing in each of its entries: those ahead stay, and the mail heard again brings the rest.
func TestTornHear(t *testing.T) {
	f := channel(t, 4, bare)
	v := at(12)
	w := holds(t, walletOf(t, 2, f), f, at(11), 3)
	entries := []api.Entry{enSeen(t, f, v, 0), enSeen(t, f, v, 1), enSeen(t, f, v, 3), enMine(t, f, v, 2)}
	raw := mailOf(t, f, v, 3, 1, 0)
	reply := sent(t, f, 2, v, 0, 1, 2, 3)
	after := noted(t, w, entries...)
	written := 0
	for i, e := range entries {
		record := recordOf(t, e)
		ahead := noted(t, w, entries[:i]...)
		for _, n := range []int{0, 1, len(record) - 1} {
			torn := off(ahead, record[:n])
			wantStep(t, fmt.Sprintf("entry %d at %d", i, n), armed(w, written+n), acHear(raw), fresh(), torn, beside(api.ErrPower))
			back := Boot(torn, n/2)
			if !Same(back, ahead) {
				t.Errorf("entry %d at %d: %s", i, n, told(back))
			}
			wantStep(t, fmt.Sprintf("behind entry %d at %d", i, n), back, acHear(raw), fresh(), after, reply)
		}
		written += len(record)
	}
	wantStep(t, "with just enough", armed(w, written), acHear(raw), fresh(), armed(after, 0), reply)
}

// P29.5: what was torn was not sent: another state of its turn can be, and then no other.
func TestTornMove(t *testing.T) {
	f := channel(t, 2, bare)
	w := walletOf(t, 0, f)
	one, two := at(0), other(0)
	torn := off(w, recordOf(t, enMine(t, f, one, 0))[:40])
	wantStep(t, "torn", armed(w, 40), acMove(f, one), fresh(), torn, beside(api.ErrPower))
	refuses(t, "without power", torn, acMove(f, two), fresh(), api.ErrPower)
	back := Boot(torn, 40)
	after := holds(t, back, f, two, 0)
	wantStep(t, "another one", back, acMove(f, two), fresh(), after, sent(t, f, 0, two, 0))
	for _, keep := range []int{0, 9} {
		refuses(t, "the first one once more", Boot(after, keep), acMove(f, one), fresh(), api.ErrTurn)
		refuses(t, "the first one heard", Boot(after, keep), acHear(mailOf(t, f, one, 0)), fresh(), api.ErrThere)
	}
	lost := after
	lost.Disk = disk.Arm(after.Disk, 0)
	refuses(t, "with a fuse of 0", lost, acMove(f, one), fresh(), api.ErrTurn)
}

// crowded is a wallet behind so many goals that there is just room for so many bytes more, and for no goal beside them.
func crowded(t testing.TB, w api.Wallet, room int) api.Wallet {
	t.Helper()
	stay := api.Entry{Kind: api.EnGoal, Channel: w.Book.Chans[0].Id}
	for len(w.Disk.Data)+len(recordOf(t, stay))+room <= api.MaxDisk {
		w = noted(t, w, stay)
	}
	return w
}

// P29.2: a device bears just so much; what it does not bear is neither noted nor sent.
func TestFull(t *testing.T) {
	// Four channels, many goals and a state of so much data fill a device to the last byte.
	l := []api.Fixed{channel(t, 2, bare), numbered(t, 2, bare, 4), numbered(t, 2, bare, 5), numbered(t, 2, bare, 6)}
	f, v := l[0], api.Var{Data: rep(1, 5*32)}
	record := recordOf(t, enMine(t, f, v, 0))
	w := crowded(t, walletOf(t, 0, l...), len(record))
	if len(w.Disk.Data)+len(record) != api.MaxDisk {
		t.Fatalf("%d and %d bytes", len(w.Disk.Data), len(record))
	}
	after := holds(t, w, f, v, 0)
	wantStep(t, "just so much", w, acMove(f, v), fresh(), after, sent(t, f, 0, v, 0))
	more := v
	more.Data += "d"
	refuses(t, "a word more", w, acMove(f, more), fresh(), api.ErrRange)
	refuses(t, "a word more, with a fuse", armed(w, 3), acMove(f, more), fresh(), api.ErrRange)
	wantStep(t, "with a fuse", armed(w, 3), acMove(f, v), fresh(), off(w, record[:3]), beside(api.ErrPower))

	next := v
	next.Turn = 1
	refuses(t, "a goal", after, acExit(f), fresh(), api.ErrRange)
	refuses(t, "a channel", after, acOpen(numbered(t, 2, bare, 7)), fresh(), api.ErrRange)
	refuses(t, "a mail", after, acHear(mailOf(t, f, next, 1)), fresh(), api.ErrRange)
	refuses(t, "a key", after, acKey(0), fresh(), api.ErrThere)
	refuses(t, "a turn that is over", after, acMove(f, v), fresh(), api.ErrTurn)
	refuses(t, "no act", after, api.Act{}, fresh(), api.ErrForm)
	wantStep(t, "a look", after, acLook(), fresh(), after, api.Reply{})
	if got := Boot(after, 9); !Same(got, after) {
		t.Errorf("Boot is %s", told(got))
	}
}

// P29.2: what was noted ahead of what a device does not bear stays.
func TestFullAmid(t *testing.T) {
	f := channel(t, 2, bare)
	v := at(6)
	record := recordOf(t, enMine(t, f, v, 1))
	w := crowded(t, holds(t, walletOf(t, 1, f), f, at(5), 1), 2*len(record))
	wantStep(t, "both", w, acHear(mailOf(t, f, v, 0)), fresh(), holds(t, w, f, v, 0, 1), sent(t, f, 1, v, 0, 1))
	w = noted(t, w, api.Entry{Kind: api.EnGoal, Channel: enExit(f).Channel})
	wantStep(t, "no answer", w, acHear(mailOf(t, f, v, 0)), fresh(), holds(t, w, f, v, 0), beside(api.ErrRange))

	l := []api.Fixed{numbered(t, 2, bare, 8), numbered(t, 2, bare, 9)}
	two := with(2, split(t, 5, 6))
	record = recordOf(t, enMine(t, f, two, 0))
	w = crowded(t, agreed(t, agreed(t, walletOf(t, 0, l...), l[0]), l[1]), len(record))
	c := lays(t, lays(t, fresh(), l[0], 11), l[1], 11)
	wantStep(t, "one of two", w, acLook(), c, holds(t, w, l[0], two, 0), beside(api.ErrRange, sent(t, l[0], 0, two, 0).Letters...))
}
