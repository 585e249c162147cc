package book

import (
	"slices"

	"truce/api"
	"truce/state"
)

// Same tells whether two are the same.
func Same(a, b api.Book) bool {
	return a.Key == b.Key && a.Who == b.Who && slices.EqualFunc(a.Chans, b.Chans, sameChan)
}

func sameChan(a, b api.Chan) bool {
	return sameFixed(a.Fixed, b.Fixed) && a.Id == b.Id && a.Me == b.Me && slices.EqualFunc(a.Kept, b.Kept, sameKept) &&
		a.Mine == b.Mine && a.Goal == b.Goal
}

func sameKept(a, b api.Kept) bool {
	return state.Same(a.Var, b.Var) && slices.Equal(a.Has, b.Has) && slices.Equal(a.Seals, b.Seals)
}

func sameFixed(a, b api.Fixed) bool {
	return slices.Equal(a.Parts, b.Parts) && a.Nonce == b.Nonce && a.App == b.App && a.Time == b.Time
}

// placeOf is a channel's place, or below 0.
func placeOf(l []api.Chan, channel string) int {
	return slices.IndexFunc(l, func(c api.Chan) bool { return c.Id == channel })
}

// sound tells whether each participant has its place in all lists of a channel: so it is in what Apply tells. Whoever asks this first may go through them without a look at their ends.
func sound(c api.Chan) bool {
	n := len(c.Fixed.Parts)
	odd := func(k api.Kept) bool { return len(k.Has) != n || len(k.Seals) != n }
	return 0 <= c.Me && c.Me < n && !slices.ContainsFunc(c.Kept, odd)
}

func soundAll(l []api.Chan) bool {
	return !slices.ContainsFunc(l, func(c api.Chan) bool { return !sound(c) })
}

// copied is a book in memory of its own.
func copied(b api.Book) api.Book {
	b.Chans = slices.Clone(b.Chans)
	for i, c := range b.Chans {
		b.Chans[i] = copiedChan(c)
	}
	return b
}

func copiedChan(c api.Chan) api.Chan {
	c.Fixed = copiedFixed(c.Fixed)
	c.Kept = slices.Clone(c.Kept)
	for i, k := range c.Kept {
		c.Kept[i] = api.Kept{Var: copiedVar(k.Var), Has: slices.Clone(k.Has), Seals: slices.Clone(k.Seals)}
	}
	return c
}

func copiedFixed(f api.Fixed) api.Fixed {
	f.Parts = slices.Clone(f.Parts)
	return f
}

func copiedVar(v api.Var) api.Var {
	v.Exits = slices.Clone(v.Exits)
	for i, e := range v.Exits {
		v.Exits[i].Allocs = slices.Clone(e.Allocs)
	}
	return v
}
