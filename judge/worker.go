package judge

import (
	"slices"
	"strings"

	"truce/api"
	"truce/claim"
	"truce/num"
	"truce/pay"
	"truce/proof"
	"truce/state"
)

// noughts is how an address's destination begins.
const noughts = "\x00\x00\x00\x00\x00\x00\x00\x00\x00\x00\x00\x00"

// worker changes the judge that it embeds, whose memory is its own.
type worker struct {
	api.Judge
	now   int        // the moment at which it works
	coins []api.Coin // what it has paid to addresses
}

// worked is a worker behind its work; with an error nothing of that is left.
func worked(j api.Judge, work func(*worker) api.Errno) (worker, api.Errno) {
	w := worker{Judge: copied(j)}
	if err := work(&w); err != api.OK {
		return worker{Judge: copied(j)}, err
	}
	return w, api.OK
}

// workedAt is a worker behind its work at a moment, for which it must be one.
func workedAt(j api.Judge, now int, work func(*worker) api.Errno) (worker, api.Errno) {
	return worked(j, func(w *worker) api.Errno {
		if !isMoment(now) {
			return api.ErrTime
		}
		w.now = now
		return work(w)
	})
}

func (w *worker) deposit(channel, asset string, expect, n api.U) api.Errno {
	if !named(channel, asset) {
		return api.ErrForm
	}
	held := Held(w.Judge, channel, asset)
	if held != expect {
		return api.ErrState
	}
	if sum, ok := sumOf(w.Holds, asset); !ok || isOver(sum, n) {
		return api.ErrOver
	}
	w.holdMore(channel, asset, n)
	return errIf(len(w.Holds) > maxHolds, api.ErrMany)
}

// layNewer lays down what signed states support, unless the channel's case tells that it is old.
func (w *worker) layNewer(f api.Fixed, l []api.Signed, isOld func(c api.Case, turn uint64) bool, ends int) api.Errno {
	v, err := proof.Support(f, l)
	if err != api.OK {
		return err
	}
	at, there := caseAt(w.Cases, state.Id(f))
	if there && hasEnded(w.Cases[at], w.now) {
		return api.ErrFinal
	}
	if there && isOld(w.Cases[at], v.Turn) {
		return api.ErrTurn
	}
	return w.lay(f, v, ends)
}

func (w *worker) conclude(f api.Fixed, l []api.Signed) api.Errno {
	v, err := proof.Support(f, l)
	if err != api.OK {
		return err
	}
	if len(l) > 1 || !v.Final {
		return api.ErrOpen
	}
	if Final(w.Judge, w.now, state.Id(f)) {
		return api.ErrFinal
	}
	return w.lay(f, v, w.now)
}

func (w *worker) transfer(channel, asset string, which []int) api.Errno {
	exit, err := w.exit(channel, asset)
	if err != api.OK {
		return err
	}
	rest, paid, left, err := pay.Transfer(Held(w.Judge, channel, asset), exit.Allocs, which)
	if err != api.OK {
		return err
	}
	exit.Allocs = rest
	// What is left is set ahead of the payments, since a channel may pay itself.
	w.hold(channel, asset, left)
	for i, n := range paid {
		w.hand(rest[i].Dest, asset, n)
	}
	return errIf(len(w.Holds) > maxHolds, api.ErrMany)
}

func (w *worker) claim(channel, asset string, k int) api.Errno {
	ledger, err := w.exit(channel, asset)
	if err != api.OK {
		return err
	}
	if k < 0 || k >= len(ledger.Allocs) {
		return api.ErrRange
	}
	inner, err := w.exit(ledger.Allocs[k].Dest, asset)
	// That it has none of the asset is for claim.Reclaim to tell.
	if err == api.ErrOpen {
		return err
	}
	rest, err := claim.Reclaim(ledger.Allocs, k, inner.Allocs)
	ledger.Allocs = rest
	return err
}

// exit is what an ended channel's outcome has of an asset, in the worker's own memory; beside an error it is one without allocations.
func (w *worker) exit(channel, asset string) (*api.Exit, api.Errno) {
	at, there := caseAt(w.Cases, channel)
	if !there || !hasEnded(w.Cases[at], w.now) {
		return &api.Exit{}, api.ErrOpen
	}
	exits := w.Cases[at].Exits
	k := slices.IndexFunc(exits, func(e api.Exit) bool { return e.Asset == asset })
	if k < 0 {
		return &api.Exit{}, api.ErrNone
	}
	return &exits[k], api.OK
}

// lay lays a state down as its channel's case.
func (w *worker) lay(f api.Fixed, v api.Var, ends int) api.Errno {
	c := copiedCase(api.Case{Channel: state.Id(f), Turn: v.Turn, Ends: ends, Digest: state.Digest(f, v), Exits: v.Exits})
	at, there := caseAt(w.Cases, c.Channel)
	if there {
		w.Cases[at] = c
		return api.OK
	}
	w.Cases = slices.Insert(w.Cases, at, c)
	return errIf(len(w.Cases) > maxCases, api.ErrMany)
}

// hand brings what was paid where it goes: to an address as a coin, to a channel by holding it for that.
func (w *worker) hand(dest, asset string, n api.U) {
	who, isAddress := strings.CutPrefix(dest, noughts)
	switch {
	case !isAddress:
		w.holdMore(dest, asset, n)
	case n != (api.U{}):
		w.coins = append(w.coins, api.Coin{Who: who, Asset: asset, Amount: n})
	}
}

func (w *worker) holdMore(channel, asset string, n api.U) {
	more, _ := num.Add(Held(w.Judge, channel, asset), n)
	w.hold(channel, asset, more)
}

// hold sets how much of an asset is held for a channel; there is no hold of 0.
func (w *worker) hold(channel, asset string, n api.U) {
	at, there := holdAt(w.Holds, channel, asset)
	ahead, behind := w.Holds[:at], w.Holds[at:]
	if there {
		behind = behind[1:]
	}
	var own []api.Hold
	if n != (api.U{}) {
		own = []api.Hold{{Channel: channel, Asset: asset, Amount: n}}
	}
	w.Holds = slices.Concat(ahead, own, behind)
}

// copied is a judge in memory of its own; lists that are empty are none.
func copied(j api.Judge) api.Judge {
	var cases []api.Case
	for _, c := range j.Cases {
		cases = append(cases, copiedCase(c))
	}
	return api.Judge{Holds: slices.Concat(j.Holds), Cases: cases}
}

func copiedCase(c api.Case) api.Case {
	var exits []api.Exit
	for _, e := range c.Exits {
		exits = append(exits, api.Exit{Asset: e.Asset, Allocs: slices.Concat(e.Allocs)})
	}
	c.Exits = exits
	return c
}

func isOver(a, b api.U) bool {
	_, over := num.Add(a, b)
	return over
}

// errIf is the error if something is wrong, else OK.
func errIf(wrong bool, err api.Errno) api.Errno {
	if wrong {
		return err
	}
	return api.OK
}
