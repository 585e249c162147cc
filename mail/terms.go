package mail

import (
	"truce/api"
	"truce/seal"
	"truce/state"
)

// terms is a fit mail, term by term.
func terms(m api.Mail) []api.Term {
	var seals []api.Term
	for _, s := range m.Signed.Seals {
		seals = append(seals, text(seal.Write(s)))
	}
	return []api.Term{
		text(state.WriteFixed(m.Fixed)), text(state.Write(m.Signed.Var)), {Kind: api.TmList, List: seals},
	}
}

func text(s string) api.Term { return api.Term{Kind: api.TmText, Text: s} }

// mailOf is the mail of terms of the form; or the error of the first text that is none of its kind.
func mailOf(l []api.Term) (api.Mail, api.Errno) {
	f, err := state.ReadFixed(l[0].Text)
	if err != api.OK {
		return api.Mail{}, err
	}
	v, err := state.Read(l[1].Text)
	if err != api.OK {
		return api.Mail{}, err
	}
	// Of all seals the first error counts, so that each can be read without asking what became of those ahead.
	sealOf := func(t api.Term) api.Seal {
		s, wrong := seal.Read(t.Text)
		if err == api.OK {
			err = wrong
		}
		return s
	}
	var seals []api.Seal
	for _, t := range l[2].List {
		seals = append(seals, sealOf(t))
	}
	if err != api.OK {
		return api.Mail{}, err
	}
	return api.Mail{Fixed: f, Signed: api.Signed{Var: v, Seals: seals}}, api.OK
}
