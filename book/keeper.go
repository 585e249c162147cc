package book

import (
	"slices"

	"truce/api"
	"truce/key"
	"truce/seal"
	"truce/state"
)

// keeper changes the book that it embeds, whose memory is its own. It tells an error ahead of any change, so that beside one the book is as it was.
type keeper struct {
	api.Book
}

// apply does what an entry says.
func (k *keeper) apply(e api.Entry) api.Errno {
	switch {
	case !fit(e) || !soundAll(k.Chans):
		return api.ErrForm
	case e.Kind == api.EnKey:
		return k.begin(e.Key)
	case k.Who == "":
		return api.ErrState
	case e.Kind == api.EnChan:
		return k.open(e.Fixed)
	}
	at := placeOf(k.Chans, e.Channel)
	if at < 0 {
		return api.ErrNone
	}
	return k.change(&k.Chans[at], e)
}

// change does what an entry of one of the book's channels says.
func (k *keeper) change(c *api.Chan, e api.Entry) api.Errno {
	switch e.Kind {
	case api.EnMine:
		return k.sign(c, e)
	case api.EnSeen:
		return see(c, e)
	}
	c.Goal = e.Goal
	return api.OK
}

// begin makes the book that of a key.
func (k *keeper) begin(own api.U) api.Errno {
	if k.Who != "" {
		return api.ErrThere
	}
	who, err := key.Who(own)
	if err != api.OK {
		return err
	}
	k.Key, k.Who = own, who
	return api.OK
}

// open takes a channel in.
func (k *keeper) open(f api.Fixed) api.Errno {
	me, id := slices.Index(f.Parts, k.Who), state.Id(f)
	switch {
	case me < 0:
		return api.ErrKey
	case placeOf(k.Chans, id) >= 0:
		return api.ErrThere
	case len(k.Chans) >= api.MaxChans:
		return api.ErrMany
	}
	k.Chans = append(k.Chans, api.Chan{Fixed: copiedFixed(f), Id: id, Me: me})
	return api.OK
}

// sign takes in what the wallet itself has sealed: no turn twice, and none below one that it has sealed.
func (k *keeper) sign(c *api.Chan, e api.Entry) api.Errno {
	if e.Var.Turn < c.Mine {
		return api.ErrTurn
	}
	if !isSealedBy(c.Fixed, e, k.Who) {
		return api.ErrSeal
	}
	if err := put(c, e, c.Me); err != api.OK {
		return err
	}
	c.Mine = e.Var.Turn + 1
	return api.OK
}

// see takes in what another one has sealed.
func see(c *api.Chan, e api.Entry) api.Errno {
	if e.Who == c.Me || e.Who >= len(c.Fixed.Parts) {
		return api.ErrKey
	}
	if !isSealedBy(c.Fixed, e, c.Fixed.Parts[e.Who]) {
		return api.ErrSeal
	}
	return put(c, e, e.Who)
}

func isSealedBy(f api.Fixed, e api.Entry, who string) bool {
	by, err := seal.Who(state.Digest(f, e.Var), e.Seal)
	return err == api.OK && by == who
}

// put puts a state with a participant's seal in its place by its turn.
func put(c *api.Chan, e api.Entry, part int) api.Errno {
	at, there := placeIn(c.Kept, e.Var.Turn)
	switch {
	case there && (c.Kept[at].Has[part] || !state.Same(c.Kept[at].Var, e.Var)):
		return api.ErrThere
	case !there && len(c.Kept) >= api.MaxKept:
		return api.ErrMany
	case !there:
		n := len(c.Fixed.Parts)
		bare := api.Kept{Var: copiedVar(e.Var), Has: make([]bool, n), Seals: make([]api.Seal, n)}
		c.Kept = slices.Insert(c.Kept, at, bare)
	}
	c.Kept[at].Has[part], c.Kept[at].Seals[part] = true, e.Seal
	letGo(c)
	return api.OK
}

// letGo lets go what no proof needs any more. A proof has no more states than there are participants; a few behind these are kept for what the others may still send.
func letGo(c *api.Chan) {
	row := best(*c)
	if len(row) == 0 {
		return
	}
	top, n := row[len(row)-1].Var.Turn, uint64(len(c.Fixed.Parts))
	c.Kept = slices.DeleteFunc(c.Kept, func(k api.Kept) bool { return k.Var.Turn+n < top })
}
