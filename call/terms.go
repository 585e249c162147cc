package call

import (
	"truce/api"
	"truce/num"
	"truce/seal"
	"truce/state"
)

// form is that of what is written: a transaction's fields in their order, of the proof each state and its seals.
const form = "nnt[(t[t])]nnnnn[n]n"

// terms is a fit transaction as terms.
func terms(t api.Tx) []api.Term {
	return []api.Term{
		smallTerm(uint64(t.Kind)), smallTerm(t.Nonce),
		// Of a zero channel, which is not fit, this is empty.
		textTerm(state.WriteFixed(t.Fixed)), listed(t.Proof, signedTerm),
		bytesTerm(t.Channel), bytesTerm(t.Asset), bytesTerm(t.To),
		numTerm(t.Expect), numTerm(t.Amount),
		listed(t.Which, placeTerm), placeTerm(t.Index),
	}
}

// txOf is the transaction of terms of its form. Numbers are cut to what their fields hold, and a text that can't be read is read as nothing.
func txOf(l []api.Term) api.Tx {
	kind := placeOf(l[0])
	// An unknown kind needs nothing; it is not fit anyway.
	need, _ := needsOf(kind)
	text := func(t api.Term, one fields, n int) string { return lastBytes(t, need.bytes(one, n)) }
	sealOf := func(t api.Term) api.Seal {
		s, _ := seal.Read(t.Text)
		return s
	}
	signedOf := func(t api.Term) api.Signed {
		v, _ := state.Read(t.List[0].Text)
		return api.Signed{Var: v, Seals: unlisted(t.List[1], sealOf)}
	}
	f, _ := state.ReadFixed(l[2].Text)
	return api.Tx{
		Kind: kind, Nonce: small(l[1]),
		Fixed: f, Proof: unlisted(l[3], signedOf),
		Channel: text(l[4], channel, lenChannel), Asset: text(l[5], asset, lenAddress), To: text(l[6], to, lenAddress),
		Expect: l[7].Num, Amount: l[8].Num,
		Which: unlisted(l[9], placeOf), Index: placeOf(l[10]),
	}
}

func signedTerm(s api.Signed) api.Term {
	sealTerm := func(one api.Seal) api.Term { return textTerm(seal.Write(one)) }
	return listTerm(textTerm(state.Write(s.Var)), listed(s.Seals, sealTerm))
}

// listed is a list as a term, each one of it put into a term by one.
func listed[T any](l []T, one func(T) api.Term) api.Term {
	var out []api.Term
	for _, x := range l {
		out = append(out, one(x))
	}
	return listTerm(out...)
}

// unlisted is the list that a term has, each one of it made of its term by one.
func unlisted[T any](t api.Term, one func(api.Term) T) []T {
	var out []T
	for _, x := range t.List {
		out = append(out, one(x))
	}
	return out
}

func listTerm(l ...api.Term) api.Term { return api.Term{Kind: api.TmList, List: l} }

func textTerm(s string) api.Term { return api.Term{Kind: api.TmText, Text: s} }

func numTerm(u api.U) api.Term { return api.Term{Kind: api.TmNum, Num: u} }

func smallTerm(n uint64) api.Term { return numTerm(num.Of(n)) }

func placeTerm(i int) api.Term { return smallTerm(uint64(i)) }

// bytesTerm is the number of at most 32 bytes, as fit ones have.
func bytesTerm(s string) api.Term {
	u, _ := num.Read(s)
	return numTerm(u)
}

// lastBytes is so many last bytes of a number's 32.
func lastBytes(t api.Term, n int) string {
	all := num.Bytes(t.Num)
	return all[len(all)-n:]
}

// small is a number's lowest part.
func small(t api.Term) uint64 { return t.Num[0] }

func placeOf(t api.Term) int { return int(small(t)) }
