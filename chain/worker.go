package chain

import (
	"slices"

	"truce/acct"
	"truce/api"
	"truce/judge"
)

// The fee is 1 of this asset, for each transaction that is taken, to this address.
const (
	feeAsset = "\x00\x00\x00\x00\x00\x00\x00\x00\x00\x00\x00\x00\x00\x00\x00\x00\x00\x00\x00\x00"
	feeTo    = "\xff\xff\xff\xff\xff\xff\xff\xff\xff\xff\xff\xff\xff\xff\xff\xff\xff\xff\xff\xff"
)

// worker does a transaction on the chain that it embeds, and throws the first error. It never writes into the chain's lists, but puts others in their places.
type worker struct {
	api.Chain
	who string // who sealed the transaction
}

// tried is the error that was thrown while the worker did something, of which nothing is left then. What is no error of a transaction is a fault of the program: it goes on.
func (w *worker) tried(work func()) (err api.Errno) {
	before := w.Chain
	defer func() {
		switch thrown := recover().(type) {
		case nil:
		case api.Errno:
			w.Chain, err = before, thrown
		default:
			panic(thrown)
		}
	}()
	work()
	return api.OK
}

// ask throws an error, if something does not hold.
func ask(holds bool, err api.Errno) {
	if !holds {
		panic(err)
	}
}

// must is what a layer below tells, if that is no error; else it throws that.
func must[T any](told T, err api.Errno) T {
	ask(err == api.OK, err)
	return told
}

// take takes a transaction of a number, whatever will become of it.
func (w *worker) take(nonce uint64) {
	ask(nonce == Next(w.Chain, w.who) && nonce < maxN, api.ErrNonce)
	_, there := countAt(w.Counts, w.who)
	ask(there || len(w.Counts) < maxCounts, api.ErrMany)
	w.spend(feeAsset, api.U{1})
	w.give(feeTo, feeAsset, api.U{1})
	w.count()
}

// count has one more transaction of the one who sealed it.
func (w *worker) count() {
	at, there := countAt(w.Counts, w.who)
	ahead, behind := w.Counts[:at], w.Counts[at:]
	own := api.Count{Who: w.who, N: 1}
	if there {
		own.N += behind[0].N
		behind = behind[1:]
	}
	w.Counts = slices.Concat(ahead, []api.Count{own}, behind)
}

// do does what a transaction says.
func (w *worker) do(t api.Tx) {
	switch t.Kind {
	case api.TxSend:
		w.spend(t.Asset, t.Amount)
		w.give(t.To, t.Asset, t.Amount)
	case api.TxDeposit:
		w.spend(t.Asset, t.Amount)
		w.Judge = must(judge.Deposit(w.Judge, t.Channel, t.Asset, t.Expect, t.Amount))
	case api.TxChallenge:
		w.Judge = must(judge.Challenge(w.Judge, w.Now, t.Fixed, t.Proof))
	case api.TxCheckpoint:
		w.Judge = must(judge.Checkpoint(w.Judge, w.Now, t.Fixed, t.Proof))
	case api.TxConclude:
		w.Judge = must(judge.Conclude(w.Judge, w.Now, t.Fixed, t.Proof))
	case api.TxTransfer:
		w.transfer(t.Channel, t.Asset, t.Which)
	case api.TxClaim:
		w.Judge = must(judge.Claim(w.Judge, w.Now, t.Channel, t.Asset, t.Index))
	}
}

// transfer pays an ended channel's allocations out, to accounts where they go to addresses.
func (w *worker) transfer(channel, asset string, which []int) {
	j, coins, err := judge.Transfer(w.Judge, w.Now, channel, asset, which)
	w.Judge = must(j, err)
	for _, c := range coins {
		w.give(c.Who, c.Asset, c.Amount)
	}
}

// spend takes money of the one who sealed the transaction.
func (w *worker) spend(asset string, n api.U) {
	w.Coins = must(acct.Take(w.Coins, w.who, asset, n))
}

func (w *worker) give(to, asset string, n api.U) {
	w.Coins = must(acct.Give(w.Coins, to, asset, n))
}
