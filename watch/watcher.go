package watch

import (
	"container/heap"
	"slices"

	"truce/api"
	"truce/book"
	"truce/judge"
)

// endsNever is when a channel ends that is not challenged.
const endsNever = 0

// watcher looks at a channel from both sides, at a moment: what the judge knows of it, and what the wallet keeps.
type watcher struct {
	api.Judge
	api.Chan
	now  int
	best []api.Signed // what supports the newest state; empty: nothing does
	exit api.Exit     // what it looks at of an ended channel's outcome
}

// watching is the watcher of a book's channel; false: the book has no such one.
func watching(j api.Judge, now int, b api.Book, channel string) (watcher, bool) {
	c, ok := book.Find(b, channel)
	if !ok {
		return watcher{}, false
	}
	return watcher{Judge: j, Chan: c, now: now, best: book.Best(c)}, true
}

// wishes are all that the wallet may want. The watcher that each of them bears is a copy, as it is when the method is taken from it.
func (w watcher) wishes() *wishes {
	l := &wishes{}
	if !w.hasEnded(w.Id) {
		for urgency, tell := range []func() (api.Tx, bool){w.conclude, w.challenge, w.checkpoint} {
			heap.Push(l, wish{urgency: urgency, tell: tell})
		}
		return l
	}
	ended, _ := judge.Find(w.Judge, w.Id)
	for place, e := range ended.Exits {
		w.exit = e
		heap.Push(l, wish{place: place, urgency: 0, tell: w.claim})
		heap.Push(l, wish{place: place, urgency: 1, tell: w.transfer})
	}
	return l
}

// conclude ends the channel by a final state of all. That one alone proves it: the judge takes no row.
func (w watcher) conclude() (api.Tx, bool) {
	needed := w.Goal == api.GoalExit && len(w.best) == 1 && w.best[0].Var.Final
	return w.proving(api.TxConclude, needed)
}

// challenge sets the end of the channel, unless it is set by a state that is as new.
func (w watcher) challenge() (api.Tx, bool) {
	return w.proving(api.TxChallenge, w.Goal == api.GoalExit && w.isToEnd())
}

// checkpoint takes a challenge by an older state away.
func (w watcher) checkpoint() (api.Tx, bool) { return w.proving(api.TxCheckpoint, w.isAtRisk()) }

// claim gives what the exit has bound to an ended channel to its sides.
func (w watcher) claim() (api.Tx, bool) {
	isFree := func(a api.Alloc) bool { return a.Kind == api.PayBound && w.hasEnded(a.Dest) }
	at := slices.IndexFunc(w.exit.Allocs, isFree)
	if at < 0 {
		return api.Tx{}, false
	}
	return api.Tx{Kind: api.TxClaim, Channel: w.Id, Asset: w.exit.Asset, Index: at}, true
}

// transfer pays out what of the exit is not bound.
func (w watcher) transfer() (api.Tx, bool) {
	isDue := func(a api.Alloc) bool { return a.Kind == api.PayPlain && a.Amount != (api.U{}) }
	held := judge.Held(w.Judge, w.Id, w.exit.Asset)
	if held == (api.U{}) || !slices.ContainsFunc(w.exit.Allocs, isDue) {
		return api.Tx{}, false
	}
	return api.Tx{Kind: api.TxTransfer, Channel: w.Id, Asset: w.exit.Asset}, true
}

// proving is a transaction that lays the newest state down, if there is a need of it.
func (w watcher) proving(kind int, needed bool) (api.Tx, bool) {
	if !needed {
		return api.Tx{}, false
	}
	return api.Tx{Kind: kind, Fixed: w.Fixed, Proof: w.best}, true
}

func (w watcher) hasEnded(channel string) bool { return judge.Final(w.Judge, w.now, channel) }

// isToEnd tells whether the judge would take a challenge by the newest state.
func (w watcher) isToEnd() bool {
	turn, ok := w.newest()
	c, there := judge.Find(w.Judge, w.Id)
	return ok && (!there || c.Turn < turn || c.Turn == turn && c.Ends == endsNever)
}

// isAtRisk tells whether the channel will end by an older state than the newest.
func (w watcher) isAtRisk() bool {
	turn, ok := w.newest()
	c, there := judge.Find(w.Judge, w.Id)
	return ok && there && c.Ends > endsNever && !w.hasEnded(w.Id) && c.Turn < turn
}

// newest is the turn of the newest state that is supported; false: none is.
func (w watcher) newest() (uint64, bool) {
	if len(w.best) == 0 {
		return 0, false
	}
	return w.best[len(w.best)-1].Var.Turn, true
}
