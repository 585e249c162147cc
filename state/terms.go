package state

import (
	"truce/api"
	"truce/num"
)

// The forms of what is written.
const (
	fixedForm = "[n]ntn"
	varForm   = "nnt[(n[(nnnnn)])]"
)

// fixedTerms is a fit channel as terms.
func fixedTerms(f api.Fixed) []api.Term {
	return []api.Term{listed(f.Parts, bytesTerm), smallTerm(f.Nonce), textTerm(f.App), smallTerm(uint64(f.Time))}
}

// fixedOf is the channel of terms of its form. Numbers are cut to what their fields hold.
func fixedOf(l []api.Term) api.Fixed {
	who := func(t api.Term) string { return lastBytes(t, addressBytes) }
	return api.Fixed{Parts: unlisted(l[0], who), Nonce: small(l[1]), App: l[2].Text, Time: int(small(l[3]))}
}

// varTerms is a fit state as terms.
func varTerms(v api.Var) []api.Term {
	exits := listed(v.Exits, func(e api.Exit) api.Term {
		return listTerm(bytesTerm(e.Asset), listed(e.Allocs, allocTerm))
	})
	return []api.Term{smallTerm(v.Turn), flagTerm(v.Final), textTerm(v.Data), exits}
}

// varOf is the state of terms of its form. Numbers are cut to what their fields hold.
func varOf(l []api.Term) api.Var {
	sides := sidesOf()
	alloc := func(t api.Term) api.Alloc { return allocOf(t.List, sides) }
	exits := unlisted(l[3], func(t api.Term) api.Exit {
		return api.Exit{Asset: lastBytes(t.List[0], addressBytes), Allocs: unlisted(t.List[1], alloc)}
	})
	return api.Var{Turn: small(l[0]), Final: small(l[1]) == 1, Data: l[2].Text, Exits: exits}
}

func allocTerm(a api.Alloc) api.Term {
	return listTerm(bytesTerm(a.Dest), numTerm(a.Amount), smallTerm(uint64(a.Kind)), bytesTerm(a.Left), bytesTerm(a.Right))
}

func allocOf(l []api.Term, sides map[int]int) api.Alloc {
	kind := int(small(l[2]))
	// An unknown kind has no sides; it is not fit anyway.
	side := sides[kind]
	return api.Alloc{Dest: lastBytes(l[0], destBytes), Amount: l[1].Num, Kind: kind, Left: lastBytes(l[3], side), Right: lastBytes(l[4], side)}
}

// listed is a list as a term, each one of it put into a term by one.
func listed[T any](l []T, one func(T) api.Term) api.Term {
	var out []api.Term
	for _, x := range l {
		out = append(out, one(x))
	}
	return listTerm(out...)
}

// unlisted is the list that a term has, each one of it made of its term by one.
func unlisted[T any](t api.Term, one func(api.Term) T) []T {
	var out []T
	for _, x := range t.List {
		out = append(out, one(x))
	}
	return out
}

func listTerm(l ...api.Term) api.Term { return api.Term{Kind: api.TmList, List: l} }

func textTerm(s string) api.Term { return api.Term{Kind: api.TmText, Text: s} }

func numTerm(u api.U) api.Term { return api.Term{Kind: api.TmNum, Num: u} }

func smallTerm(n uint64) api.Term { return numTerm(num.Of(n)) }

func flagTerm(on bool) api.Term {
	if on {
		return smallTerm(1)
	}
	return smallTerm(0)
}

// bytesTerm is the number of at most 32 bytes, as fit ones have.
func bytesTerm(s string) api.Term {
	u, _ := num.Read(s)
	return numTerm(u)
}

// lastBytes is so many last bytes of a number's 32.
func lastBytes(t api.Term, n int) string {
	all := num.Bytes(t.Num)
	return all[len(all)-n:]
}

// small is a number's lowest part.
func small(t api.Term) uint64 { return t.Num[0] }
