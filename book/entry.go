package book

import (
	"truce/api"
	"truce/key"
	"truce/num"
	"truce/seal"
	"truce/state"
)

// form is how an entry's terms are laid: Kind, Key, Fixed, Channel, Var, Who, Seal, Goal.
const form = "nntntntn"

// channelBytes is how long a channel's name is.
const channelBytes = 32

// fit tells whether an entry can be: its kind's fields are as they must be, all others zero.
func fit(e api.Entry) bool {
	bare, ok := bared(e)
	return ok && sameEntry(e, bare)
}

// bared is an entry with the fields of its kind alone, and whether these are as they must be.
func bared(e api.Entry) (api.Entry, bool) {
	switch e.Kind {
	case api.EnKey:
		return api.Entry{Kind: e.Kind, Key: e.Key}, key.Fit(e.Key)
	case api.EnChan:
		return api.Entry{Kind: e.Kind, Fixed: e.Fixed}, state.FitFixed(e.Fixed)
	case api.EnMine:
		return api.Entry{Kind: e.Kind, Channel: e.Channel, Var: e.Var, Seal: e.Seal}, fitState(e)
	case api.EnSeen:
		isPlace := 0 <= e.Who && e.Who < api.MaxParts
		return api.Entry{Kind: e.Kind, Channel: e.Channel, Var: e.Var, Who: e.Who, Seal: e.Seal}, fitState(e) && isPlace
	case api.EnGoal:
		isGoal := e.Goal == api.GoalStay || e.Goal == api.GoalExit
		return api.Entry{Kind: e.Kind, Channel: e.Channel, Goal: e.Goal}, isChannel(e.Channel) && isGoal
	}
	return api.Entry{}, false
}

// fitState is what is asked of entries that bring a state. Whose its seal is, if anybody's, a book asks.
func fitState(e api.Entry) bool { return isChannel(e.Channel) && state.FitVar(e.Var) }

func isChannel(name string) bool { return len(name) == channelBytes }

func hasChannel(kind int) bool { return hasState(kind) || kind == api.EnGoal }

func hasState(kind int) bool { return kind == api.EnMine || kind == api.EnSeen }

// terms is a fit entry, term by term. That a kind has no state must be asked, since a zero state is a fit one and has bytes, too.
func terms(e api.Entry) []api.Term {
	var of, sealed string
	if hasState(e.Kind) {
		of, sealed = state.Write(e.Var), seal.Write(e.Seal)
	}
	channel, _ := num.Read(e.Channel)
	return []api.Term{
		count(e.Kind), number(e.Key), text(state.WriteFixed(e.Fixed)), number(channel),
		text(of), count(e.Who), text(sealed), count(e.Goal),
	}
}

func number(n api.U) api.Term { return api.Term{Kind: api.TmNum, Num: n} }

func count(n int) api.Term { return number(num.Of(uint64(n))) }

func text(s string) api.Term { return api.Term{Kind: api.TmText, Text: s} }

// entryOf is the entry of terms of the form. Numbers are cut to what their fields hold, texts that can't be read leave their fields zero: only one who writes it again knows whether it was these terms'.
func entryOf(l []api.Term) api.Entry {
	e := api.Entry{Kind: intOf(l[0]), Key: l[1].Num, Who: intOf(l[5]), Goal: intOf(l[7])}
	e.Fixed, _ = state.ReadFixed(l[2].Text)
	if hasChannel(e.Kind) {
		e.Channel = num.Bytes(l[3].Num)
	}
	e.Var, _ = state.Read(l[4].Text)
	e.Seal, _ = seal.Read(l[6].Text)
	return e
}

func intOf(t api.Term) int { return int(t.Num[0]) }

func sameEntry(a, b api.Entry) bool {
	return a.Kind == b.Kind && a.Key == b.Key && sameFixed(a.Fixed, b.Fixed) && a.Channel == b.Channel &&
		state.Same(a.Var, b.Var) && a.Who == b.Who && a.Seal == b.Seal && a.Goal == b.Goal
}
