package wallet

import (
	"slices"

	"truce/api"
	"truce/book"
	"truce/call"
	"truce/chain"
	"truce/disk"
	"truce/fund"
	"truce/log"
	"truce/mail"
	"truce/state"
	"truce/turn"
	"truce/watch"
)

// worker does an act of the wallet that it embeds, and fills the reply. It throws the first error; what it noted and sent ahead of that stays.
type worker struct {
	api.Wallet
	api.Reply
}

// do does an act.
func (w *worker) do(a api.Act, c api.Chain) {
	defer w.catch()
	if w.Disk.Off {
		panic(api.ErrPower)
	}
	switch a.Kind {
	case api.AcKey:
		w.note(api.Entry{Kind: api.EnKey, Key: a.Key})
	case api.AcOpen:
		w.note(api.Entry{Kind: api.EnChan, Fixed: a.Fixed})
	case api.AcExit:
		w.note(api.Entry{Kind: api.EnGoal, Channel: a.Channel, Goal: api.GoalExit})
	case api.AcMove:
		w.say(must(turn.Propose(w.Book, a.Channel, a.Data, a.Exits, a.Final)))
	case api.AcHear:
		w.hear(must(mail.Read(a.Raw)))
	case api.AcLook:
		w.look(c)
	default:
		panic(api.ErrForm)
	}
}

// catch has the error that was thrown in the reply. What is no error of an act is a fault of the program: it goes on.
func (w *worker) catch() {
	thrown := recover()
	if thrown == nil {
		return
	}
	err, ok := thrown.(api.Errno)
	if !ok {
		panic(thrown)
	}
	w.Err = err
}

// ask throws an error, if it is one.
func ask(err api.Errno) {
	if err != api.OK {
		panic(err)
	}
}

// must is what a layer below tells, if that is no error; else it throws that.
func must[T any](told T, err api.Errno) T {
	ask(err)
	return told
}

// note writes an entry down. It is the book's when it lasts, not before; the device is as it tells beside an error, too, with what was torn.
func (w *worker) note(e api.Entry) {
	b := must(book.Apply(w.Book, e))
	var err api.Errno
	w.Disk, err = disk.Write(w.Disk, log.Frame(book.Write(e)))
	ask(err)
	w.Disk, err = disk.Sync(w.Disk)
	ask(err)
	w.Book = b
}

// say notes a state of the wallet's own, and sends it to all others.
func (w *worker) say(e api.Entry) {
	w.note(e)
	c, _ := book.Find(w.Book, e.Channel)
	raw := mail.Write(api.Mail{Fixed: c.Fixed, Signed: signed(c, e)})
	for place, who := range c.Fixed.Parts {
		if place != c.Me {
			w.Letters = append(w.Letters, api.Letter{To: who, Raw: raw})
		}
	}
}

// hear notes what a mail brings, and answers.
func (w *worker) hear(m api.Mail) {
	id := state.Id(m.Fixed)
	for _, e := range must(turn.Accept(w.Book, id, m.Signed)) {
		w.note(e)
	}
	if e, err := turn.Answer(w.Book, id); err == api.OK {
		w.say(e)
	}
}

// look does for each channel what the chain asks for. Without a Who there is none.
func (w *worker) look(c api.Chain) {
	var txs []api.Tx
	for _, of := range w.Book.Chans {
		txs = append(txs, fund.Deposits(c.Judge, w.Book, of.Id)...)
		if e, err := fund.Ready(c.Judge, w.Book, of.Id); err == api.OK {
			w.say(e)
		}
		// What was said just now may be newer than what the chain knows.
		txs = append(txs, watch.Moves(c.Judge, c.Now, w.Book, of.Id)...)
	}
	w.Txs = w.wrapped(txs, chain.Next(c, w.Book.Who))
}

// wrapped is transactions as bytes, numbered from the next one on: all of them, or none.
func (w *worker) wrapped(txs []api.Tx, next uint64) []string {
	var out []string
	for i, tx := range txs {
		tx.Nonce = next + uint64(i)
		out = append(out, must(call.Wrap(tx, w.Book.Key)))
	}
	return out
}

// signed is a noted state with its seals, in the participants' order: with its own alone, if it was let go at once.
func signed(c api.Chan, e api.Entry) api.Signed {
	at := slices.IndexFunc(c.Kept, func(k api.Kept) bool { return k.Var.Turn == e.Var.Turn })
	if at < 0 {
		return api.Signed{Var: e.Var, Seals: []api.Seal{e.Seal}}
	}
	out := api.Signed{Var: e.Var}
	for part, has := range c.Kept[at].Has {
		if has {
			out.Seals = append(out.Seals, c.Kept[at].Seals[part])
		}
	}
	return out
}

// copied is a wallet in memory of its own.
func copied(w api.Wallet) api.Wallet {
	l := slices.Clone(w.Book.Chans)
	for i, c := range l {
		l[i], _ = book.Find(w.Book, c.Id)
	}
	w.Book.Chans = l
	return w
}
