package world

import (
	"iter"
	"slices"

	"truce/api"
	"truce/chain"
	"truce/disk"
	"truce/key"
	"truce/wallet"
)

// worker does moves in the world that it embeds.
type worker struct{ api.World }

// do does a move. A letter or a transaction that comes stays where it is, so that it can come once more.
func (k *worker) do(m api.Move) (err api.Errno) {
	switch m.Kind {
	case api.MvTake:
		if m.N < 0 || m.N >= len(k.Txs) {
			return api.ErrNone
		}
		return k.apply(k.Txs[m.N])
	case api.MvTx:
		return k.apply(m.Raw)
	case api.MvTick:
		k.Chain, err = chain.Tick(k.Chain, m.N)
		return err
	case api.MvMint, api.MvAct, api.MvPost, api.MvRaw, api.MvArm, api.MvCrash:
		for at := range k.meant(m) {
			return k.doOf(at, m)
		}
		return api.ErrNone
	}
	return api.ErrForm
}

// meant hands out the places of the wallets that a move may be of: of a letter all that have its address, else the one that the move names.
func (k *worker) meant(m api.Move) iter.Seq[int] {
	return func(yield func(int) bool) {
		for at, w := range k.Wallets {
			if k.isMeant(at, w, m) && !yield(at) {
				return
			}
		}
	}
}

func (k *worker) isMeant(at int, w api.Wallet, m api.Move) bool {
	if m.Kind != api.MvPost {
		return at == m.Who
	}
	return m.N >= 0 && m.N < len(k.Posts) && k.Posts[m.N].To == w.Book.Who
}

// doOf does a move of the wallet at a place.
func (k *worker) doOf(at int, m api.Move) (err api.Errno) {
	w := &k.Wallets[at]
	switch m.Kind {
	case api.MvMint:
		k.Chain, err = chain.Mint(k.Chain, w.Book.Who, m.Asset, m.Amount)
	case api.MvAct:
		err = k.tell(at, m.Act)
	case api.MvPost:
		err = k.tell(at, api.Act{Kind: api.AcHear, Raw: k.Posts[m.N].Raw})
	case api.MvRaw:
		err = k.tell(at, api.Act{Kind: api.AcHear, Raw: m.Raw})
	case api.MvArm:
		w.Disk = disk.Arm(w.Disk, m.N)
	case api.MvCrash:
		*w = wallet.Boot(*w, m.N)
	}
	return err
}

// tell tells a wallet an act; what it sends lies behind all else that was sent, also when an error came later.
func (k *worker) tell(at int, a api.Act) api.Errno {
	w, r := wallet.Step(k.Wallets[at], a, k.Chain)
	k.Wallets[at] = w
	for _, l := range r.Letters {
		k.Posts = append(k.Posts, api.Post{From: at, To: l.To, Raw: l.Raw})
	}
	k.Txs = append(k.Txs, r.Txs...)
	return r.Err
}

// apply has the chain take a transaction.
func (k *worker) apply(raw string) api.Errno {
	c, r := chain.Apply(k.Chain, raw)
	k.Chain = c
	return r.Err
}

// begun hands out the wallets that a world begins with, each told its key.
func begun(n int, c api.Chain) iter.Seq[api.Wallet] {
	return func(yield func(api.Wallet) bool) {
		for at := range max(1, min(n, api.MaxWallets)) {
			w, _ := wallet.Step(wallet.New(), api.Act{Kind: api.AcKey, Key: key.Small(uint64(at))}, c)
			if !yield(w) {
				return
			}
		}
	}
}

// copied is a world in memory of its own. What a layer below tells has that already: no moments later the chain is the same, and an act of no kind leaves a wallet as it is.
func copied(w api.World) api.World {
	c, _ := chain.Tick(w.Chain, 0)
	out := api.World{Chain: c, Posts: slices.Clone(w.Posts), Txs: slices.Clone(w.Txs)}
	for _, x := range w.Wallets {
		same, _ := wallet.Step(x, api.Act{}, c)
		out.Wallets = append(out.Wallets, same)
	}
	return out
}
