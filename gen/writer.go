package gen

import (
	"slices"

	"truce/api"
	"truce/num"
	"truce/state"
)

// maxTurns is how many turns more than the first four and the last one there are at most.
const maxTurns = 20

// freeTurn is the first turn that may change something: twice as many as there are participants.
const freeTurn = 2 * wallets

// What each wallet has at first, of the channel's asset and for fees.
const (
	coinsEach = 20
	feesEach  = 50
)

// moves are a script, each one laid behind the others.
type moves []api.Move

func (l *moves) lay(m api.Move) { *l = append(*l, m) }

func (l *moves) mint(who int, asset string, n uint64) {
	l.lay(api.Move{Kind: api.MvMint, Who: who, Asset: asset, Amount: num.Of(n)})
}

func (l *moves) act(who int, a api.Act) {
	l.lay(api.Move{Kind: api.MvAct, Who: who, Act: a})
}

// writer writes a channel's script into the moves that it embeds; it counts what the wallets will have sent.
type writer struct {
	moves
	fixed api.Fixed
	exits []api.Exit
	id    string
	turn  int
	posts int // letters that have come
	txs   int // transactions that were taken
}

func begin(seed uint64) *writer {
	f, exits := Channel(seed)
	return &writer{fixed: f, exits: exits, id: state.Id(f)}
}

// open gives both wallets money, and tells them of the channel.
func (w *writer) open() {
	for who := range wallets {
		w.mint(who, w.exits[0].Asset, coinsEach)
		w.mint(who, assetOf("\x00"), feesEach)
	}
	for who := range wallets {
		w.act(who, api.Act{Kind: api.AcOpen, Fixed: w.channel()})
	}
}

// turns lays turns that are not the last one.
func (w *writer) turns(n int) {
	for range n {
		w.move(false)
		// Without a rule the other one signs each turn from freeTurn on as well, and sends that; w.turn is one further by now.
		if w.fixed.App == "" && w.turn > freeTurn {
			w.post()
		}
	}
}

// last lays the last turn: with or without a rule the other one signs the end.
func (w *writer) last() {
	w.move(true)
	w.post()
}

// move lays a turn of the wallet whose turn it is, and that its letter comes.
func (w *writer) move(final bool) {
	w.act(w.turn%wallets, api.Act{Kind: api.AcMove, Channel: w.id, Data: "d", Exits: w.outcome(), Final: final})
	w.post()
	w.turn++
}

// deposit has each wallet lay down its part, if that is something: else it sends no transaction.
func (w *writer) deposit() {
	for who := range wallets {
		w.act(who, api.Act{Kind: api.AcLook})
		if w.amount(who) != num.Of(0) {
			w.take()
		}
	}
}

// leave has the first wallet end the channel by its last state, and pay its outcome out, if there is something in it.
func (w *writer) leave() {
	w.act(0, api.Act{Kind: api.AcExit, Channel: w.id})
	w.act(0, api.Act{Kind: api.AcLook})
	w.take()
	w.act(0, api.Act{Kind: api.AcLook})
	if w.amount(0) != num.Of(0) || w.amount(1) != num.Of(0) {
		w.take()
	}
}

func (w *writer) post() {
	w.lay(api.Move{Kind: api.MvPost, N: w.posts})
	w.posts++
}

func (w *writer) take() {
	w.lay(api.Move{Kind: api.MvTake, N: w.txs})
	w.txs++
}

func (w *writer) amount(who int) api.U { return w.exits[0].Allocs[who].Amount }

// channel is the channel in memory of its own, as no two moves may share any.
func (w *writer) channel() api.Fixed {
	f := w.fixed
	f.Parts = slices.Clone(f.Parts)
	return f
}

// outcome is the outcome in memory of its own.
func (w *writer) outcome() []api.Exit {
	e := w.exits[0]
	e.Allocs = slices.Clone(e.Allocs)
	return []api.Exit{e}
}
